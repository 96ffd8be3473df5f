package tests

import (
	"fmt"
	"math"
	"math/big"
	"math/rand"
	"slices"
	"strings"
	"testing"

	"loop.example/g01099/impl"
)

// ground returns the ground with a text, which need not be valid; it does not use the program.
func ground(s string) impl.Ground {
	words := strings.Split(s, "|")
	g := impl.Ground{Densities: numbers(words[0])}
	for _, word := range words[1:] {
		g.Holes = append(g.Holes, hole(word))
	}
	return g
}

func hole(s string) impl.Hole {
	list := numbers(strings.Replace(s, ":", ",", 1))
	return impl.Hole{Ring: list[0], Tops: list[1:]}
}

// groundText writes the text of any ground as the document says.
func groundText(g impl.Ground) string {
	write := func(list []int64) string { return strings.ReplaceAll(strings.Trim(fmt.Sprint(list), "[]"), " ", ",") }
	s := write(g.Densities)
	for _, h := range g.Holes {
		s += fmt.Sprintf("|%d:%s", h.Ring, write(h.Tops))
	}
	return s
}

func groundIsValid(g impl.Ground) bool {
	classes := len(g.Densities)
	isBad := classes < 1 || classes > 4 || len(g.Holes) < 1 || len(g.Holes) > 6
	for _, density := range g.Densities {
		isBad = isBad || density < 1 || density > 3000
	}
	for i, h := range g.Holes {
		isBad = isBad || h.Ring < 0 || h.Ring > 60 || len(h.Tops) != classes
		isBad = isBad || i > 0 && h.Ring <= g.Holes[i-1].Ring
		for k, top := range h.Tops {
			isBad = isBad || top < -100000 || top > 100000 || k > 0 && top > h.Tops[k-1]
		}
	}
	return !isBad
}

// topsOf returns the tops of a valid ground at a ring.
func topsOf(g impl.Ground, ring int64) []int64 {
	before, behind := g.Holes[0], g.Holes[len(g.Holes)-1]
	for _, h := range g.Holes {
		if h.Ring <= ring {
			before = h
		}
	}
	for _, h := range slices.Backward(g.Holes) {
		if h.Ring >= ring {
			behind = h
		}
	}
	tops := slices.Clone(before.Tops)
	if before.Ring == behind.Ring {
		return tops
	}
	for class := range tops {
		rise := big.NewInt((behind.Tops[class] - before.Tops[class]) * (ring - before.Ring))
		tops[class] += floorOf(rise, big.NewInt(behind.Ring-before.Ring)).Int64()
	}
	return tops
}

// classIn returns the class of a height below tops, beginning with the last class.
func classIn(tops []int64, height int64) int64 {
	for class := len(tops) - 1; class >= 0; class-- {
		if tops[class] > height {
			return int64(class)
		}
	}
	return -1
}

// faceIn returns the parts of all classes below tops, and of the air, in a face.
func faceIn(tops []int64, height int64) []int64 {
	face := make([]int64, len(tops)+1)
	middle := height - 2700
	for _, part := range []int64{52, 90, 111, 122, 125, 125, 122, 111, 90, 52} {
		class := classIn(tops, middle)
		if class < 0 {
			class = int64(len(tops))
		}
		face[class] += part
		middle += 600
	}
	return face
}

// weightIn returns the weight of the parts of a face, rounded to the nearest kg, a half upwards.
func weightIn(densities, face []int64) int64 {
	sum := int64(0)
	for class, density := range densities {
		sum += face[class] * density
	}
	return (sum + 10) / 20
}

// edgeGrounds tells whether grounds are valid; most of them are at a limit, or just behind it.
var edgeGrounds = map[string]bool{
	"1800,2100|0:5000,1000|10:5000,-1000": true,
	"1|0:0":                               true,
	"0|0:0":                               false,
	"-1|0:0":                              false,
	"3000|0:0":                            true,
	"3001|0:0":                            false,
	"1,3000,1,3000|0:0,0,0,0":             true,
	"1,3000,1,3001|0:0,0,0,0":             false,
	"1,0,1,1|0:0,0,0,0":                   false,
	"1,1,1,1,1|0:0,0,0,0,0":               false,
	"1":                                   false,
	"1,2,3,4":                             false,
	"1|-1:0":                              false,
	"1|60:0":                              true,
	"1|61:0":                              false,
	"1|0:0|60:0":                          true,
	"1|0:0|61:0":                          false,
	"1|0:100000":                          true,
	"1|0:100001":                          false,
	"1|0:-100000":                         true,
	"1|0:-100001":                         false,
	"1,1|0:100000,-100000":                true,
	"1,1|0:100001,-100000":                false,
	"1,1|0:100000,-100001":                false,
	"1,1|0:5,5":                           true,
	"1,1|0:5,6":                           false,
	"1,1|0:-6,-5":                         false,
	"1,1,1|0:5,4,5":                       false,
	"1,1,1|0:5,4,4":                       true,
	"1,1|0:5":                             false,
	"1,1|0:5,5,5":                         false,
	"1|0:5,5":                             false,
	"1,1|0:5,5|1:5":                       false,
	"1,1|0:5,5|1:5,6":                     false,
	"1|0:1|1:2|2:3|3:2|4:1|5:0":           true,
	"1|0:1|1:2|2:3|3:2|4:1|5:0|6:0":       false,
	"1|10:0|9:0":                          false,
	"1|10:0|10:0":                         false,
	"1|10:0|11:0":                         true,
	"1|0:0|5:0|5:1|9:0":                   false,
	"1|0:0|5:0|4:0|9:0":                   false,
	"1,2,3,4|0:9,9,9,9|12:9,8,7,6|24:9,0,0,-9|36:1,1,1,1|48:100000,100000,100000,100000|60:-100000,-100000,-100000,-100000": true,
	"9223372036854775807|0:0":                        false,
	"-9223372036854775808|0:0":                       false,
	"1|9223372036854775807:0":                        false,
	"1|-9223372036854775808:0":                       false,
	"1|0:9223372036854775807":                        false,
	"1|0:-9223372036854775808":                       false,
	"1|0:0|9223372036854775807:0":                    false,
	"1,1|0:9223372036854775807,-9223372036854775808": false,
}

// badGrounds are not valid: just behind a limit, or without some lists.
func badGrounds() []impl.Ground {
	list := []impl.Ground{{}, {Densities: []int64{1}}, {Holes: []impl.Hole{{}}}, {Holes: []impl.Hole{{}, {Ring: 1}}}, {Densities: []int64{1}, Holes: []impl.Hole{{}}}}
	for s, isValid := range edgeGrounds {
		if !isValid {
			list = append(list, ground(s))
		}
	}
	return list
}

// sampleGrounds are valid: some at the limits, and some far from them.
func sampleGrounds() []impl.Ground {
	var list []impl.Ground
	for s, isValid := range edgeGrounds {
		if isValid {
			list = append(list, ground(s))
		}
	}
	slices.SortFunc(list, func(a, b impl.Ground) int { return strings.Compare(groundText(a), groundText(b)) })
	random := rand.New(rand.NewSource(60))
	for len(list) < 300 {
		list = append(list, randomGround(random))
	}
	return list
}

// randomGround returns a valid ground with holes that are near to each other or far away.
func randomGround(random *rand.Rand) impl.Ground {
	pick := func(list ...int64) int64 { return list[random.Intn(len(list))] }
	var g impl.Ground
	for range 1 + random.Intn(4) {
		g.Densities = append(g.Densities, pick(1+random.Int63n(3000), 1+random.Int63n(30)))
	}
	rings := map[int64]bool{}
	for most := pick(8, 20, 61); len(rings) < 1+random.Intn(6); {
		rings[random.Int63n(most)] = true
	}
	far := pick(4, 3000, 3000, 100000)
	middle := random.Int63n(2*(100000-far)+1) - (100000 - far)
	for ring := range int64(61) {
		if !rings[ring] {
			continue
		}
		h := impl.Hole{Ring: ring}
		for range g.Densities {
			h.Tops = append(h.Tops, middle+random.Int63n(2*far+1)-far)
		}
		slices.Sort(h.Tops)
		slices.Reverse(h.Tops)
		g.Holes = append(g.Holes, h)
	}
	return g
}

// heightsNear returns heights at tops, beside them, and where strips of a face meet them.
func heightsNear(tops []int64) []int64 {
	list := []int64{0, 100000, -100000}
	for _, top := range tops {
		for strip := range int64(10) {
			at := top - 300*(2*strip-9)
			list = append(list, at-1, at, at+1)
		}
		list = append(list, top-1, top, top+1, top-5000, top+5000)
	}
	slices.Sort(list)
	list = slices.Compact(list)
	return slices.DeleteFunc(list, func(height int64) bool { return height < -100000 || height > 100000 })
}

func TestLimitsOfGrounds(t *testing.T) {
	got := results(impl.MaxClasses, impl.MaxHoles, impl.MaxDensity, impl.FaceStrips, impl.StripHeight, impl.MaxWeighed)
	expect(t, "limits", got, "[4 6 3000 10 600 1000000]")
}

func TestValidGround(t *testing.T) {
	for s, want := range edgeGrounds {
		if got := impl.ValidGround(ground(s)); got != want {
			t.Errorf("ValidGround(%s): got %v", s, got)
		}
	}
	random := rand.New(rand.NewSource(61))
	counts := map[bool]int{}
	for range 5000 {
		g := randomGround(random)
		h := &g.Holes[random.Intn(len(g.Holes))]
		for _, target := range []*int64{&g.Densities[random.Intn(len(g.Densities))], &h.Ring, &h.Tops[random.Intn(len(h.Tops))]} {
			if random.Intn(2) == 0 {
				*target += random.Int63n(15) - 7
			}
		}
		got := impl.ValidGround(g)
		if got != groundIsValid(g) {
			t.Errorf("ValidGround(%s): got %v", groundText(g), got)
		}
		counts[got]++
	}
	if counts[true] < 500 || counts[false] < 500 {
		t.Errorf("%d of the grounds are valid, and %d are not", counts[true], counts[false])
	}
	for _, g := range badGrounds() {
		if impl.ValidGround(g) {
			t.Errorf("ValidGround(%v): got true", g)
		}
	}
}

func TestTopsAt(t *testing.T) {
	for _, g := range sampleGrounds() {
		for ring := range int64(61) {
			tops, ok := impl.TopsAt(g, ring)
			expect(t, fmt.Sprintf("TopsAt(%s, %d)", groundText(g), ring), results(tops, ok), results(topsOf(g, ring), true))
		}
	}
}

func TestTopsAtItsLimits(t *testing.T) {
	for _, c := range []struct {
		ground string
		ring   int64
		want   string
	}{
		{"1800,2100|0:5000,1000|10:5000,-1000", 3, "[[5000 400] true]"},
		// At a hole, in front of the first one, and behind the last one.
		{"1,1|10:7,3|20:9,-9", 10, "[[7 3] true]"},
		{"1,1|10:7,3|20:9,-9", 20, "[[9 -9] true]"},
		{"1,1|10:7,3|20:9,-9", 9, "[[7 3] true]"},
		{"1,1|10:7,3|20:9,-9", 0, "[[7 3] true]"},
		{"1,1|10:7,3|20:9,-9", 21, "[[9 -9] true]"},
		{"1,1|10:7,3|20:9,-9", 60, "[[9 -9] true]"},
		{"1,1|10:7,3|15:0,0|20:9,-9", 15, "[[0 0] true]"},
		{"1|60:5", 0, "[[5] true]"},
		{"1|60:5", 60, "[[5] true]"},
		{"1|0:5", 60, "[[5] true]"},
		{"1|0:0|60:60", 59, "[[59] true]"},
		// Quotients that are not whole are rounded down, above 0 and below it, whether tops rise or fall.
		{"1|0:0|3:1", 1, "[[0] true]"},
		{"1|0:0|3:1", 2, "[[0] true]"},
		{"1|0:0|3:2", 2, "[[1] true]"},
		{"1|0:0|3:-1", 1, "[[-1] true]"},
		{"1|0:0|3:-1", 2, "[[-1] true]"},
		{"1|0:1|3:0", 1, "[[0] true]"},
		{"1|0:1|3:0", 2, "[[0] true]"},
		{"1|0:-10|3:-9", 1, "[[-10] true]"},
		{"1|0:-9|3:-10", 1, "[[-10] true]"},
		{"1|0:10|3:11", 2, "[[10] true]"},
		{"1|0:11|3:10", 2, "[[10] true]"},
		{"1|0:-1|2:2", 1, "[[0] true]"},
		{"1|0:1|2:-2", 1, "[[-1] true]"},
		{"1|4:5|11:-6", 6, "[[1] true]"},
		{"1|4:-6|11:5", 6, "[[-3] true]"},
		{"1|0:100000|60:-100000", 1, "[[96666] true]"},
		{"1|0:-100000|60:100000", 59, "[[96666] true]"},
		{"1|0:-100000|60:100000", 1, "[[-96667] true]"},
		// Neighbouring holes one ring apart.
		{"1|7:100|8:-100", 7, "[[100] true]"},
		{"1|7:100|8:-100", 8, "[[-100] true]"},
		{"1|7:100|8:-100", 6, "[[100] true]"},
		{"1|7:100|8:-100", 9, "[[-100] true]"},
		{"1|6:0|7:100|8:-100|10:1", 9, "[[-50] true]"},
		// Tops of some classes rise, and tops of others fall.
		{"1,1,1,1|0:3,2,1,0|2:4,1,0,0", 1, "[[3 1 0 0] true]"},
		// Rings that are none, and grounds that are not valid.
		{"1|0:5", -1, "[[] false]"},
		{"1|0:5", 61, "[[] false]"},
		{"1|0:5", math.MaxInt64, "[[] false]"},
		{"1|0:5", math.MinInt64, "[[] false]"},
		{"1|0:5|0:5", 0, "[[] false]"},
		{"1,1|0:5,6", 0, "[[] false]"},
	} {
		tops, ok := impl.TopsAt(ground(c.ground), c.ring)
		expect(t, fmt.Sprintf("TopsAt(%s, %d)", c.ground, c.ring), results(tops, ok), c.want)
	}
}

func TestFacesAreTheirParts(t *testing.T) {
	mixed, airy := 0, 0
	for i, g := range sampleGrounds() {
		for _, ring := range []int64{0, int64(i % 61), g.Holes[0].Ring, 60} {
			tops := topsOf(g, ring)
			for _, height := range heightsNear(tops) {
				face := faceIn(tops, height)
				call := fmt.Sprintf("(%s, %d, %d)", groundText(g), ring, height)
				class, ok := impl.ClassAt(g, ring, height)
				expect(t, "ClassAt"+call, results(class, ok), results(classIn(tops, height), true))
				got, ok := impl.FaceOf(g, ring, height)
				expect(t, "FaceOf"+call, results(got, ok), results(face, true))
				weight, ok := impl.WeightOf(g, ring, height)
				expect(t, "WeightOf"+call, results(weight, ok), results(weightIn(g.Densities, face), true))
				if count := countOf(face); count > 1 {
					mixed++
				}
				if face[len(face)-1] > 0 {
					airy++
				}
			}
		}
	}
	if mixed < 1000 || airy < 1000 {
		t.Errorf("%d faces have several classes, and %d have air", mixed, airy)
	}
}

// countOf returns how many classes have a part of a face.
func countOf(face []int64) int {
	count := 0
	for _, part := range face[:len(face)-1] {
		if part > 0 {
			count++
		}
	}
	return count
}

func TestClassAtItsLimits(t *testing.T) {
	g := "1800,2100|0:5000,1000|10:5000,-1000"
	for _, c := range []struct {
		ground       string
		ring, height int64
		want         string
	}{
		// At a top, and beside it.
		{g, 3, 399, "[1 true]"},
		{g, 3, 400, "[0 true]"},
		{g, 3, 401, "[0 true]"},
		{g, 3, 4999, "[0 true]"},
		{g, 3, 5000, "[-1 true]"},
		{g, 3, 5001, "[-1 true]"},
		{g, 10, -1000, "[0 true]"},
		{g, 10, -1001, "[1 true]"},
		// Of neighbouring classes with equal tops, the last one counts.
		{"1,1,1,1|0:9,5,5,1", 0, 4, "[2 true]"},
		{"1,1,1,1|0:9,5,5,1", 0, 5, "[0 true]"},
		{"1,1,1,1|0:9,5,5,1", 0, 1, "[2 true]"},
		{"1,1,1,1|0:9,5,5,1", 0, 0, "[3 true]"},
		{"1,1,1,1|0:5,5,5,5", 0, 4, "[3 true]"},
		{"1,1,1,1|0:5,5,5,5", 0, 5, "[-1 true]"},
		{"1|0:0", 60, -1, "[0 true]"},
		{"1|0:0", 60, 0, "[-1 true]"},
		// Heights at the limits, and one beyond them.
		{"1|0:100000", 0, 100000, "[-1 true]"},
		{"1|0:100000", 0, 99999, "[0 true]"},
		{"1|0:-100000", 0, -100000, "[-1 true]"},
		{"1|0:-99999", 0, -100000, "[0 true]"},
		{"1|0:0", 0, 100001, "[0 false]"},
		{"1|0:0", 0, -100001, "[0 false]"},
		{"1|0:0", -1, 0, "[0 false]"},
		{"1|0:0", 61, 0, "[0 false]"},
		{"1|0:0", 0, math.MaxInt64, "[0 false]"},
		{"1|0:0", 0, math.MinInt64, "[0 false]"},
		{"1|0:0|0:0", 0, 0, "[0 false]"},
	} {
		class, ok := impl.ClassAt(ground(c.ground), c.ring, c.height)
		expect(t, fmt.Sprintf("ClassAt(%s, %d, %d)", c.ground, c.ring, c.height), results(class, ok), c.want)
	}
}

func TestFaceOfAtItsLimits(t *testing.T) {
	g := "1800,2100|0:5000,1000|10:5000,-1000"
	for _, c := range []struct {
		ground       string
		ring, height int64
		want         string
	}{
		{g, 3, 0, "[[375 625 0] true 99375 true]"},
		{g, 3, 5000, "[[500 0 500] true 45000 true]"},
		// The middle of a strip is exactly at a top, and beside it.
		{"2|0:300", 0, 0, "[[500 500] true 50 true]"},
		{"2|0:301", 0, 0, "[[625 375] true 63 true]"},
		{"2|0:299", 0, 0, "[[500 500] true 50 true]"},
		{"2|0:-2700", 0, 0, "[[0 1000] true 0 true]"},
		{"2|0:-2699", 0, 0, "[[52 948] true 5 true]"},
		{"2|0:2700", 0, 0, "[[948 52] true 95 true]"},
		{"2|0:2701", 0, 0, "[[1000 0] true 100 true]"},
		{"2|0:0", 0, -300, "[[500 500] true 50 true]"},
		{"2|0:0", 0, -301, "[[625 375] true 63 true]"},
		// All strips, from below.
		{"1,1,1,1|0:-900,-1500,-2100,-2101", 0, 0, "[[111 90 0 52 747] true 13 true]"},
		{"1,1,1,1|0:900,300,-300,-899", 0, 0, "[[125 125 0 375 375] true 31 true]"},
		{"1,1,1,1|0:3000,2400,1800,1200", 0, 0, "[[52 90 111 747 0] true 50 true]"},
		// Equal tops leave nothing to the class between them.
		{"1,1,1,1|0:9000,0,0,0", 0, 0, "[[500 0 0 500 0] true 50 true]"},
		{"1,1,1,1|0:9000,9000,9000,9000", 0, 0, "[[0 0 0 1000 0] true 50 true]"},
		{"1,1,1,1|0:-9000,-9000,-9000,-9000", 0, 0, "[[0 0 0 0 1000] true 0 true]"},
		// The middles of strips are beyond the limit of heights.
		{"2|0:100000", 0, 100000, "[[500 500] true 50 true]"},
		{"2|0:100000", 0, 98000, "[[858 142] true 86 true]"},
		{"2,4|0:100000,-100000", 0, -100000, "[[500 500 0] true 150 true]"},
		{"2,4|0:-100000,-100000", 0, -100000, "[[0 500 500] true 100 true]"},
		{"2|0:-100000", 0, 100000, "[[0 1000] true 0 true]"},
		{"2|0:100000", 0, -100000, "[[1000 0] true 100 true]"},
		// Weights are rounded to the nearest kg, halves upwards.
		{"1|0:-1500", 0, 0, "[[142 858] true 7 true]"},
		{"1|0:-900", 0, 0, "[[253 747] true 13 true]"},
		{"5|0:-1500", 0, 0, "[[142 858] true 36 true]"},
		{"1,1|0:-900,-1500", 0, 0, "[[111 142 747] true 13 true]"},
		{"2|0:-300", 0, 0, "[[375 625] true 38 true]"},
		{"3000|0:9000", 0, 0, "[[1000 0] true 150000 true]"},
		{"1|0:9000", 0, 0, "[[1000 0] true 50 true]"},
		{"3000|0:9000", 0, 100001, "[[] false 0 false]"},
		{"3000|0:9000", 0, -100001, "[[] false 0 false]"},
		{"3000|0:9000", -1, 0, "[[] false 0 false]"},
		{"3000|0:9000", 61, 0, "[[] false 0 false]"},
		{"3000|0:9000", 0, math.MaxInt64, "[[] false 0 false]"},
		{"3000|0:9000", 0, math.MinInt64, "[[] false 0 false]"},
		{"3001|0:9000", 0, 0, "[[] false 0 false]"},
	} {
		face, one := impl.FaceOf(ground(c.ground), c.ring, c.height)
		weight, two := impl.WeightOf(ground(c.ground), c.ring, c.height)
		expect(t, fmt.Sprintf("the face (%s, %d, %d)", c.ground, c.ring, c.height), results(face, one, weight, two), c.want)
	}
}

// along returns the classes, the mixed rings and the weights along a valid axis.
func along(g impl.Ground, a impl.Axis) string {
	poses := posesOf(a)
	var classes, mixed, weights []int64
	for ring, p := range poses[:len(poses)-1] {
		tops := topsOf(g, int64(ring))
		face := faceIn(tops, p.Height)
		classes = append(classes, classIn(tops, p.Height))
		weights = append(weights, weightIn(g.Densities, face))
		if countOf(face) > 1 {
			mixed = append(mixed, int64(ring))
		}
	}
	return results(classes, true, mixed, true, weights, true)
}

// checkAlong compares what a ground has along an axis with what is wanted.
func checkAlong(t *testing.T, g impl.Ground, a impl.Axis, want string) {
	t.Helper()
	classes, one := impl.ClassesAlong(g, a)
	mixed, two := impl.MixedRings(g, a)
	weights, three := impl.PrognosisOf(g, a)
	call := fmt.Sprintf("%s along %s", groundText(g), axisText(a))
	expect(t, call, results(classes, one, mixed, two, weights, three), want)
}

func TestGroundAlongAxes(t *testing.T) {
	random := rand.New(rand.NewSource(62))
	grounds := sampleGrounds()
	for _, a := range sampleAxes() {
		g := grounds[random.Intn(len(grounds))]
		checkAlong(t, g, a, along(g, a))
		// The axis is moved to the tops of the ground, where it can be.
		h := g.Holes[random.Intn(len(g.Holes))]
		a.Start.Height = h.Tops[random.Intn(len(h.Tops))] + random.Int63n(3001) - 1500
		if axisIsValid(a) {
			checkAlong(t, g, a, along(g, a))
		}
	}
	checkAlong(t, ground("1800,2100|0:5000,1000|10:5000,-9000"), axis("0,0,0,0;4:0,0"), "[[1 0 0 0] true [0 1 2 3] true [101205 97500 93795 92130] true]")
	// Each ring has the height of the pose with its number, and the last pose has no ring.
	checkAlong(t, ground("20|0:0"), axis("0,-300,0,300;3:0,0"), "[[0 -1 -1] true [] true [500 500 375] true]")
	// The air is no class, and one class alone is not mixed.
	checkAlong(t, ground("20,40|0:9000,0|1:9000,-9000|2:0,-9000"), axis("0,0,0,0;4:0,0"), "[[0 0 -1 -1] true [0] true [1500 1000 500 500] true]")
	checkAlong(t, ground("1|0:9000"), axis("0,0,0,0;60:0,0"), results(repeated(0, 60), true, "[]", true, repeated(50, 60), true))
}

func TestGroundAlongRefusesInvalidArguments(t *testing.T) {
	good, line := ground("1|0:9000"), axis("0,0,0,0;4:0,0")
	none := "[[] false [] false [] false]"
	for _, g := range badGrounds() {
		checkAlong(t, g, line, none)
	}
	for s, isValid := range edgeAxes {
		if !isValid {
			checkAlong(t, good, axis(s), none)
		}
	}
	checkAlong(t, impl.Ground{}, impl.Axis{}, none)
}
