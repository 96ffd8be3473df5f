package tests

import (
	"fmt"
	"math"
	"math/big"
	"math/bits"
	"math/rand"
	"slices"
	"testing"

	"loop.example/g01099/impl"
)

// mostSettled is the greatest settlement.
const mostSettled = 2000000

// fewerThan counts, of all choices among some things, those of fewer than j of them; each choice is a number whose bits are the things.
func fewerThan(j int, things int64) int64 {
	count := int64(0)
	for choice := range uint(1) << things {
		if bits.OnesCount(choice) < j {
			count++
		}
	}
	return count
}

// troughOf returns the parts of a trough.
func troughOf(volume, width int64) []int64 {
	behind := func(j int64) int64 {
		part := new(big.Int).Mul(big.NewInt(volume), big.NewInt(fewerThan(int(j), 2*width)))
		return floorOf(part, new(big.Int).Exp(big.NewInt(4), big.NewInt(width), nil)).Int64()
	}
	var parts []int64
	for j := range 2*width + 1 {
		parts = append(parts, behind(j+1)-behind(j))
	}
	return parts
}

// settlementsOf goes through the points, and takes for each one what every trough has there.
func settlementsOf(list []impl.Loss) []int64 {
	settled := make([]int64, 24)
	troughs := make([][]int64, len(list))
	for i, l := range list {
		troughs[i] = troughOf(l.Volume, l.Width)
	}
	for point := range settled {
		for i, l := range list {
			if j := int64(point) - l.Station + l.Width; j >= 0 && j <= 2*l.Width {
				settled[point] += troughs[i][j]
			}
		}
	}
	return settled
}

func sum(list []int64) int64 {
	sum := int64(0)
	for _, n := range list {
		sum += n
	}
	return sum
}

// surface returns Points settlements: those given for some points, as point:settlement, and 0 elsewhere.
func surface(given map[int]int64) []int64 {
	list := make([]int64, 24)
	for point, settlement := range given {
		list[point] = settlement
	}
	return list
}

// sampleSurfaces are settled lists: some with few different numbers, and some with great ones.
func sampleSurfaces() [][]int64 {
	list := [][]int64{repeated(0, 24), repeated(1, 24), repeated(mostSettled, 24)}
	for point := range 24 {
		list = append(list, surface(map[int]int64{point: 5}), surface(map[int]int64{point: mostSettled}))
	}
	random := rand.New(rand.NewSource(73))
	for len(list) < 600 {
		most := []int64{1, 3, 40, mostSettled}[random.Intn(4)]
		settled := make([]int64, 24)
		for i := range settled {
			settled[i] = random.Int63n(most + 1)
		}
		list = append(list, settled)
	}
	return list
}

// badSurfaces are no settled lists.
func badSurfaces() [][]int64 {
	list := [][]int64{nil, {5}, repeated(5, 23), repeated(5, 25), repeated(5, 48), repeated(5, 100000)}
	for _, n := range []int64{-1, mostSettled + 1, math.MaxInt64, math.MinInt64} {
		for _, point := range []int{0, 11, 23} {
			list = append(list, surface(map[int]int64{point: n}))
		}
		list = append(list, repeated(n, 24))
	}
	return list
}

// badDepths are neither thresholds nor units of settlements.
func badDepths() []int64 {
	return []int64{0, -1, -5, mostSettled + 1, math.MaxInt64, math.MinInt64}
}

func TestTroughOf(t *testing.T) {
	volumes := []int64{31999, 32000, 65536, 99998, 99999, 100000}
	for volume := range int64(1100) {
		volumes = append(volumes, volume)
	}
	random := rand.New(rand.NewSource(74))
	for range 400 {
		volumes = append(volumes, random.Int63n(100001))
	}
	for _, volume := range volumes {
		for width := range int64(6) {
			parts, ok := impl.TroughOf(volume, width)
			call := fmt.Sprintf("TroughOf(%d, %d)", volume, width)
			expect(t, call, results(parts, ok), results(troughOf(volume, width), true))
			expect(t, "the sum of "+call, results(sum(parts)), results(volume))
		}
	}
}

func TestTroughOfAtItsLimits(t *testing.T) {
	for _, c := range []struct {
		volume, width int64
		want          string
	}{
		{10, 1, "[[2 5 3] true]"},
		{7, 0, "[[7] true]"},
		{0, 0, "[[0] true]"},
		{0, 1, "[[0 0 0] true]"},
		{0, 5, "[[0 0 0 0 0 0 0 0 0 0 0] true]"},
		{100000, 0, "[[100000] true]"},
		{100000, 1, "[[25000 50000 25000] true]"},
		{100000, 2, "[[6250 25000 37500 25000 6250] true]"},
		{100000, 5, "[[97 977 4394 11719 20508 24609 20508 11719 4394 977 98] true]"},
		{1024, 5, "[[1 10 45 120 210 252 210 120 45 10 1] true]"},
		{16, 2, "[[1 4 6 4 1] true]"},
		// What is rounded down on one side comes out on the other one.
		{1, 1, "[[0 0 1] true]"},
		{2, 1, "[[0 1 1] true]"},
		{3, 1, "[[0 2 1] true]"},
		{5, 1, "[[1 2 2] true]"},
		{1, 2, "[[0 0 0 0 1] true]"},
		{15, 2, "[[0 4 6 4 1] true]"},
		{17, 2, "[[1 4 6 4 2] true]"},
		{100001, 1, "[[] false]"},
		{-1, 1, "[[] false]"},
		{10, 6, "[[] false]"},
		{10, -1, "[[] false]"},
		{100001, 6, "[[] false]"},
		{math.MaxInt64, 0, "[[] false]"},
		{math.MinInt64, 0, "[[] false]"},
		{10, math.MaxInt64, "[[] false]"},
		{10, math.MinInt64, "[[] false]"},
	} {
		parts, ok := impl.TroughOf(c.volume, c.width)
		expect(t, fmt.Sprintf("TroughOf(%d, %d)", c.volume, c.width), results(parts, ok), c.want)
	}
}

func TestSettledVolumeIsLostVolume(t *testing.T) {
	random := rand.New(rand.NewSource(75))
	for _, list := range sampleLosses() {
		call := fmt.Sprintf("SettlementsOf(%v)", list)
		settled, ok := impl.SettlementsOf(list)
		expect(t, call, results(settled, ok), results(settlementsOf(list), true))
		lost := int64(0)
		for _, l := range list {
			lost += l.Volume
		}
		volume, ok := impl.VolumeOf(settled)
		expect(t, "VolumeOf "+call, results(volume, ok), results(lost, true))
		// In any other order, the losses let the surface settle in the same way.
		other := slices.Clone(list)
		random.Shuffle(len(other), func(i, j int) { other[i], other[j] = other[j], other[i] })
		again, ok := impl.SettlementsOf(other)
		expect(t, call+" in another order", results(again, ok), results(settled, true))
	}
	// From the voids to the surface.
	for _, list := range sampleGrouts() {
		near := slices.DeleteFunc(list, func(g impl.Grout) bool { return g.Ring < 5 || g.Ring > 18 })
		for width := range int64(6) {
			missing := int64(0)
			for _, g := range near {
				loss, _ := impl.LossOf(g)
				missing += loss
			}
			lost, one := impl.LossesOf(near, width)
			settled, two := impl.SettlementsOf(lost)
			volume, three := impl.VolumeOf(settled)
			expect(t, fmt.Sprintf("the volume settled above %v", near), results(volume, one, two, three), results(missing, true, true, true))
		}
	}
}

func TestSettlementsOfAtTheirLimits(t *testing.T) {
	for _, c := range []struct {
		losses string
		want   map[int]int64
	}{
		{"", nil},
		{"@1 10l/1;@2 4l/0", map[int]int64{0: 2, 1: 5, 2: 7}},
		// The first and the last station that widths allow.
		{"@0 7l/0", map[int]int64{0: 7}},
		{"@23 7l/0", map[int]int64{23: 7}},
		{"@1 10l/1", map[int]int64{0: 2, 1: 5, 2: 3}},
		{"@22 10l/1", map[int]int64{21: 2, 22: 5, 23: 3}},
		{"@5 1l/5", map[int]int64{10: 1}},
		{"@18 1l/5", map[int]int64{23: 1}},
		{"@2 16l/2", map[int]int64{0: 1, 1: 4, 2: 6, 3: 4, 4: 1}},
		// At the same station, each loss is rounded on its own.
		{"@3 1l/1;@3 1l/1", map[int]int64{4: 2}},
		{"@3 2l/1", map[int]int64{3: 1, 4: 1}},
		{"@3 1l/1;@3 7l/0;@3 0l/3", map[int]int64{3: 7, 4: 1}},
		{"@9 0l/5", nil},
	} {
		settled, ok := impl.SettlementsOf(losses(c.losses))
		expect(t, "SettlementsOf("+c.losses+")", results(settled, ok), results(surface(c.want), true))
	}
	settled, ok := impl.SettlementsOf(slices.Repeat(losses("@9 100000l/0"), 12))
	expect(t, "the greatest settlement", results(settled, ok), results(surface(map[int]int64{9: 1200000}), true))
	for _, list := range badListsOfLosses() {
		settled, ok := impl.SettlementsOf(list)
		expect(t, fmt.Sprintf("SettlementsOf(%.80s)", fmt.Sprint(list)), results(settled, ok), "[[] false]")
	}
}

func TestVolumeOf(t *testing.T) {
	for _, settled := range sampleSurfaces() {
		volume, ok := impl.VolumeOf(settled)
		expect(t, fmt.Sprintf("VolumeOf(%v)", settled), results(volume, ok), results(sum(settled), true))
	}
	volume, ok := impl.VolumeOf(repeated(mostSettled, 24))
	expect(t, "VolumeOf the greatest list", results(volume, ok), "[48000000 true]")
}

// stretchesAt tries all pairs of points: between them all are deep, and no point beside them is.
func stretchesAt(settled []int64, least int64) [][]int64 {
	isDeep := func(point int) bool { return point >= 0 && point < 24 && settled[point] >= least }
	var list [][]int64
	for first := range 24 {
		for last := first; last < 24; last++ {
			whole := slices.Min(settled[first:last+1]) >= least
			if whole && !isDeep(first-1) && !isDeep(last+1) {
				list = append(list, []int64{int64(first), int64(last)})
			}
		}
	}
	return list
}

// steepestOf sorts all pairs of neighbours by their differences.
func steepestOf(settled []int64) string {
	difference := func(i int64) int64 { return max(settled[i]-settled[i+1], settled[i+1]-settled[i]) }
	points := make([]int64, 23)
	for i := range points {
		points[i] = int64(i)
	}
	slices.SortStableFunc(points, func(i, j int64) int { return int(difference(j) - difference(i)) })
	return results(points[0], difference(points[0]), true)
}

// thresholdsNear are in a settled list, or next to numbers of it, or at the limits.
func thresholdsNear(settled []int64) []int64 {
	list := []int64{1, 2, mostSettled - 1, mostSettled}
	for _, n := range settled[:5] {
		list = append(list, n-1, n, n+1)
	}
	return slices.DeleteFunc(list, func(n int64) bool { return n < 1 || n > mostSettled })
}

func TestAlarmsOfSurfaces(t *testing.T) {
	for _, settled := range sampleSurfaces() {
		point, steepest, ok := impl.SteepestOf(settled)
		expect(t, fmt.Sprintf("SteepestOf(%v)", settled), results(point, steepest, ok), steepestOf(settled))
		for _, least := range thresholdsNear(settled) {
			stretches, ok := impl.StretchesAt(settled, least)
			expect(t, fmt.Sprintf("StretchesAt(%v, %d)", settled, least), results(stretches, ok), results(stretchesAt(settled, least), true))
			for _, stop := range thresholdsNear(settled) {
				want := results([]int64{}, false)
				if least <= stop {
					// A point has the level of the greatest threshold that it has reached.
					list := make([]int64, 24)
					for i, n := range settled {
						list[i] = int64(len(slices.DeleteFunc([]int64{least, stop}, func(threshold int64) bool { return n < threshold })))
					}
					want = results(list, true)
				}
				levels, ok := impl.LevelsOf(settled, least, stop)
				expect(t, fmt.Sprintf("LevelsOf(%v, %d, %d)", settled, least, stop), results(levels, ok), want)
			}
		}
	}
}

func TestLevelsOfAtTheirLimits(t *testing.T) {
	settled := surface(map[int]int64{0: 4, 1: 5, 2: 6, 3: 7, 4: 8, 22: mostSettled - 1, 23: mostSettled})
	for _, c := range []struct {
		watch, stop int64
		want        map[int]int64
	}{
		{5, 7, map[int]int64{1: 1, 2: 1, 3: 2, 4: 2, 22: 2, 23: 2}},
		// Watch equal to stop, and next to it.
		{7, 7, map[int]int64{3: 2, 4: 2, 22: 2, 23: 2}},
		{6, 7, map[int]int64{2: 1, 3: 2, 4: 2, 22: 2, 23: 2}},
		{1, mostSettled, map[int]int64{0: 1, 1: 1, 2: 1, 3: 1, 4: 1, 22: 1, 23: 2}},
		{mostSettled - 1, mostSettled, map[int]int64{22: 1, 23: 2}},
		{mostSettled, mostSettled, map[int]int64{23: 2}},
		{1, 1, map[int]int64{0: 2, 1: 2, 2: 2, 3: 2, 4: 2, 22: 2, 23: 2}},
	} {
		levels, ok := impl.LevelsOf(settled, c.watch, c.stop)
		expect(t, fmt.Sprintf("LevelsOf(%v, %d, %d)", settled, c.watch, c.stop), results(levels, ok), results(surface(c.want), true))
	}
	for _, c := range [][2]int64{{8, 7}, {mostSettled, 1}, {2, 1}} {
		levels, ok := impl.LevelsOf(settled, c[0], c[1])
		expect(t, fmt.Sprintf("LevelsOf(%v, %v)", settled, c), results(levels, ok), "[[] false]")
	}
	for _, n := range badDepths() {
		for _, good := range []int64{1, 5, mostSettled} {
			one, is := impl.LevelsOf(settled, n, good)
			two, also := impl.LevelsOf(settled, good, n)
			same, even := impl.LevelsOf(settled, n, n)
			expect(t, fmt.Sprintf("LevelsOf with %d", n), results(one, is, two, also, same, even), "[[] false [] false [] false]")
		}
	}
}

func TestStretchesAtTheirLimits(t *testing.T) {
	for _, c := range []struct {
		settled map[int]int64
		least   int64
		want    string
	}{
		{map[int]int64{0: 2, 1: 5, 2: 7}, 5, "[[[1 2]] true]"},
		// None at all, and exactly enough.
		{nil, 1, "[[] true]"},
		{map[int]int64{3: 4}, 5, "[[] true]"},
		{map[int]int64{3: 5}, 5, "[[[3 3]] true]"},
		{map[int]int64{3: 6}, 5, "[[[3 3]] true]"},
		// At the first and at the last point, and one point alone.
		{map[int]int64{0: 5}, 5, "[[[0 0]] true]"},
		{map[int]int64{23: 5}, 5, "[[[23 23]] true]"},
		{map[int]int64{0: 5, 1: 6, 22: 6, 23: 5}, 5, "[[[0 1] [22 23]] true]"},
		{map[int]int64{0: 5, 23: 5}, 5, "[[[0 0] [23 23]] true]"},
		{map[int]int64{0: 5, 2: 5, 4: 5, 5: 5}, 5, "[[[0 0] [2 2] [4 5]] true]"},
		{map[int]int64{3: 9, 4: 4, 5: 9}, 5, "[[[3 3] [5 5]] true]"},
		{map[int]int64{3: 9, 4: 5, 5: 9}, 5, "[[[3 5]] true]"},
		{map[int]int64{9: mostSettled, 10: mostSettled - 1}, mostSettled, "[[[9 9]] true]"},
	} {
		stretches, ok := impl.StretchesAt(surface(c.settled), c.least)
		expect(t, fmt.Sprintf("StretchesAt(%v, %d)", c.settled, c.least), results(stretches, ok), c.want)
	}
	all, one := impl.StretchesAt(repeated(mostSettled, 24), mostSettled)
	also, two := impl.StretchesAt(repeated(1, 24), 1)
	expect(t, "StretchesAt all points", results(all, one, also, two), "[[[0 23]] true [[0 23]] true]")
	for _, n := range badDepths() {
		stretches, ok := impl.StretchesAt(repeated(5, 24), n)
		none, also := impl.StretchesAt(repeated(0, 24), n)
		expect(t, fmt.Sprintf("StretchesAt with %d", n), results(stretches, ok, none, also), "[[] false [] false]")
	}
}

func TestSteepestOfAtItsLimits(t *testing.T) {
	for _, c := range []struct {
		settled map[int]int64
		want    string
	}{
		{map[int]int64{0: 2, 1: 5, 2: 7}, "[2 7 true]"},
		// Equal numbers have the difference 0 from the first point on.
		{nil, "[0 0 true]"},
		// The first of several, whether it falls or rises.
		{map[int]int64{9: 5}, "[8 5 true]"},
		{map[int]int64{9: 5, 10: 5}, "[8 5 true]"},
		{map[int]int64{0: 5, 9: 5}, "[0 5 true]"},
		{map[int]int64{9: 5, 15: 6}, "[14 6 true]"},
		{map[int]int64{9: 6, 15: 5}, "[8 6 true]"},
		// The first and the last pair.
		{map[int]int64{0: 1}, "[0 1 true]"},
		{map[int]int64{23: 1}, "[22 1 true]"},
		{map[int]int64{22: 3, 23: 7}, "[22 4 true]"},
		{map[int]int64{22: mostSettled}, "[21 2000000 true]"},
		{map[int]int64{0: mostSettled}, "[0 2000000 true]"},
	} {
		point, steepest, ok := impl.SteepestOf(surface(c.settled))
		expect(t, fmt.Sprintf("SteepestOf(%v)", c.settled), results(point, steepest, ok), c.want)
	}
	point, steepest, ok := impl.SteepestOf(repeated(mostSettled, 24))
	expect(t, "SteepestOf equal numbers", results(point, steepest, ok), "[0 0 true]")
}

func TestFunctionsRefuseListsThatAreNotSettled(t *testing.T) {
	for _, settled := range badSurfaces() {
		volume, one := impl.VolumeOf(settled)
		levels, two := impl.LevelsOf(settled, 1, 2)
		stretches, three := impl.StretchesAt(settled, 1)
		point, steepest, four := impl.SteepestOf(settled)
		needs, five := impl.LiftNeeds(settled, mostSettled, mostSettled, 0)
		got := results(volume, one, levels, two, stretches, three, point, steepest, four, needs, five)
		expect(t, fmt.Sprintf("the list %.60s", fmt.Sprint(settled)), got, "[0 false [] false [] false 0 0 false [] false]")
	}
	// The limit itself is a settlement.
	volume, ok := impl.VolumeOf(surface(map[int]int64{0: mostSettled, 23: mostSettled}))
	expect(t, "VolumeOf with MaxSettled", results(volume, ok), "[4000000 true]")
}
