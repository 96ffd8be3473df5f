package tests

import (
	"cmp"
	"fmt"
	"math"
	"math/rand"
	"slices"
	"strconv"
	"strings"
	"testing"

	"loop.example/g01099/impl"
)

// docTurns are the turns of the keys 0 to 15, as the document writes them.
const docTurns = "10 0, 9 4, 7 7, 4 9, 0 10, -4 9, -7 7, -9 4, -10 0, -9 -4, -7 -7, -4 -9, 0 -10, 4 -9, 7 -7, 9 -4"

// ring returns the ring with a text like s0 or t15, which need not be valid; it does not use the program.
func ring(s string) impl.Ring {
	key, err := strconv.ParseInt(s[1:], 10, 64)
	if err != nil {
		panic(err)
	}
	return impl.Ring{Kind: int64(strings.Index("st", s[:1])), Key: key}
}

// tube returns the rings with the texts of s, which need not be a tube.
func tube(s string) []impl.Ring {
	var list []impl.Ring
	for _, word := range strings.Fields(s) {
		list = append(list, ring(word))
	}
	return list
}

// tubeText writes the text of any valid rings as the document says.
func tubeText(tube []impl.Ring) string {
	var words []string
	for _, r := range tube {
		words = append(words, fmt.Sprintf("%c%d", "st"[r.Kind], r.Key))
	}
	return strings.Join(words, " ")
}

func allRings() []impl.Ring {
	var list []impl.Ring
	for kind := range int64(2) {
		for key := range int64(16) {
			list = append(list, impl.Ring{Kind: kind, Key: key})
		}
	}
	return list
}

// badRings are just behind the limits of rings, and far behind them.
func badRings() []impl.Ring {
	var list []impl.Ring
	for _, n := range []int64{-1, 2, -2, math.MaxInt64, math.MinInt64} {
		list = append(list, impl.Ring{Kind: n}, impl.Ring{Kind: n, Key: 15})
	}
	for _, n := range []int64{-1, 16, 17, -16, 32, math.MaxInt64, math.MinInt64} {
		list = append(list, impl.Ring{Key: n}, impl.Ring{Kind: 1, Key: n})
	}
	return list
}

// turnOf reads the turn of a valid ring in the document.
func turnOf(r impl.Ring) [2]int64 {
	if r.Kind == 0 {
		return [2]int64{}
	}
	n := numbers(strings.Replace(strings.Split(docTurns, ", ")[r.Key], " ", ",", 1))
	return [2]int64{n[0], n[1]}
}

func hasJoint(r impl.Ring, position int64) bool {
	for _, step := range []int64{0, 1, 4, 7, 10, 13} {
		if (r.Key+step)%16 == position {
			return true
		}
	}
	return false
}

func meetingOf(a, b impl.Ring) []int64 {
	var list []int64
	for position := range int64(16) {
		if hasJoint(a, position) && hasJoint(b, position) {
			list = append(list, position)
		}
	}
	return list
}

func isTube(tube []impl.Ring) bool {
	for i, r := range tube {
		if r.Kind < 0 || r.Kind > 1 || r.Key < 0 || r.Key > 15 || i > 0 && len(meetingOf(tube[i-1], r)) > 0 {
			return false
		}
	}
	return len(tube) <= 60
}

// ringsBehind returns all rings that may follow a ring, the greatest ones first.
func ringsBehind(before impl.Ring) []impl.Ring {
	list := slices.DeleteFunc(allRings(), func(r impl.Ring) bool { return len(meetingOf(before, r)) > 0 })
	slices.Reverse(list)
	return list
}

// tubesBehind returns all tubes of some rings that follow a ring.
func tubesBehind(before impl.Ring, count int64) [][]impl.Ring {
	list := [][]impl.Ring{nil}
	for range count {
		var longer [][]impl.Ring
		for _, tube := range list {
			last := before
			if len(tube) > 0 {
				last = tube[len(tube)-1]
			}
			for _, r := range ringsBehind(last) {
				longer = append(longer, append(slices.Clone(tube), r))
			}
		}
		list = longer
	}
	return list
}

func compareTubes(a, b []impl.Ring) int {
	return slices.CompareFunc(a, b, func(x, y impl.Ring) int {
		return cmp.Or(cmp.Compare(x.Kind, y.Kind), cmp.Compare(x.Key, y.Key))
	})
}

func randomTube(random *rand.Rand, count int) []impl.Ring {
	var list []impl.Ring
	for len(list) < count {
		choice := allRings()
		if len(list) > 0 {
			choice = ringsBehind(list[len(list)-1])
		}
		list = append(list, choice[random.Intn(len(choice))])
	}
	return list
}

// sampleTubes are tubes of all lengths.
func sampleTubes() [][]impl.Ring {
	random := rand.New(rand.NewSource(30))
	var list [][]impl.Ring
	for range 4 {
		for count := range 61 {
			list = append(list, randomTube(random, count))
		}
	}
	return list
}

// posesBehind returns the poses of a tube, and whether all of them are valid.
func posesBehind(start impl.Pose, tube []impl.Ring) ([]impl.Pose, bool) {
	var bends [][2]int64
	for _, r := range tube {
		bends = append(bends, turnOf(r))
	}
	poses := posesOf(withBends(start, bends))
	return poses, !slices.ContainsFunc(poses, func(p impl.Pose) bool { return !poseIsValid(p) })
}

// offsetsOf returns the offsets of a tube that need not have been built on the axis, and their squares; it fails as the document says.
func offsetsOf(a impl.Axis, from int64, start impl.Pose, tube []impl.Ring) ([][]int64, int64, bool) {
	line := posesOf(a)
	poses, ok := posesBehind(start, tube)
	if !ok || !isTube(tube) || from < 0 || from > int64(len(line)) || from+int64(len(tube)) > int64(len(line)-1) {
		return nil, 0, false
	}
	var list [][]int64
	sum := int64(0)
	for i := range tube {
		side := poses[i+1].Side - line[int(from)+i+1].Side
		height := poses[i+1].Height - line[int(from)+i+1].Height
		list = append(list, []int64{side, height})
		sum += side*side + height*height
	}
	return list, sum, true
}

func TestLimitsOfRings(t *testing.T) {
	got := results(impl.Keys, impl.KindStraight, impl.KindTapered, impl.MaxSearch)
	expect(t, "limits", got, "[16 0 1 4]")
}

func TestRings(t *testing.T) {
	for _, r := range allRings() {
		call := fmt.Sprintf("the ring %v", r)
		turn := turnOf(r)
		bend, rise, one := impl.TurnOf(r)
		expect(t, "the turn of "+call, results(impl.ValidRing(r), bend, rise, one), results(true, turn[0], turn[1], true))
		joints, ok := impl.JointsOf(r)
		expect(t, "the joints of "+call, results(joints, ok), results(meetingOf(r, r), true))
		keys := []int64{}
		for key := range int64(16) {
			if len(meetingOf(r, impl.Ring{Key: key})) == 0 {
				keys = append(keys, key)
			}
		}
		next, ok := impl.NextKeys(r)
		expect(t, "the keys behind "+call, results(next, ok), results(keys, true))
	}
	for _, r := range badRings() {
		call := fmt.Sprintf("the ring %v", r)
		bend, rise, one := impl.TurnOf(r)
		joints, two := impl.JointsOf(r)
		next, three := impl.NextKeys(r)
		got := results(impl.ValidRing(r), bend, rise, one, joints, two, next, three)
		expect(t, call, got, "[false 0 0 false [] false [] false]")
	}
}

func TestRingsOfTheDocument(t *testing.T) {
	bend, rise, one := impl.TurnOf(ring("t1"))
	next, two := impl.NextKeys(ring("t0"))
	joints, three := impl.JointsOf(ring("s15"))
	expect(t, "rings", results(bend, rise, one, next, two, joints, three), "[9 4 true [2 5 8 11 14] true [0 3 6 9 12 15] true]")
}

func TestMeetingJoints(t *testing.T) {
	for _, a := range allRings() {
		for _, b := range allRings() {
			meeting, ok := impl.MeetingJoints(a, b)
			call := fmt.Sprintf("MeetingJoints(%v, %v)", a, b)
			expect(t, call, results(meeting, ok), results(meetingOf(a, b), true))
			back, _ := impl.MeetingJoints(b, a)
			expect(t, call+" and back", results(meeting), results(back))
			keys, _ := impl.NextKeys(a)
			isNext := slices.Contains(keys, b.Key)
			isTube := impl.ValidTube([]impl.Ring{a, b})
			if isNext != (len(meeting) == 0) || isTube != isNext {
				t.Errorf("%s: %v, but NextKeys has the key: %v, and both are a tube: %v", call, meeting, isNext, isTube)
			}
		}
		for _, b := range badRings() {
			first, one := impl.MeetingJoints(a, b)
			second, two := impl.MeetingJoints(b, a)
			expect(t, fmt.Sprintf("MeetingJoints(%v, %v)", a, b), results(first, one, second, two), "[[] false [] false]")
		}
	}
	for _, c := range []struct{ a, b, want string }{
		{"s15", "t0", "[[0] true]"},
		{"t15", "s1", "[[] true]"},
		{"s15", "s2", "[[3 6 9 12 15] true]"},
		{"s12", "t15", "[[0 3 6 9 12] true]"},
		{"t13", "t15", "[[] true]"},
		{"s0", "s0", "[[0 1 4 7 10 13] true]"},
		{"s3", "t6", "[[0 3 7 10 13] true]"},
	} {
		meeting, ok := impl.MeetingJoints(ring(c.a), ring(c.b))
		expect(t, c.a+" and "+c.b, results(meeting, ok), c.want)
	}
}

// edgeTubes tells whether rings are a tube; the ones that are none are just beside one.
func edgeTubes() map[string]bool {
	sixty := strings.TrimSpace(strings.Repeat("s0 t2 ", 30))
	return map[string]bool{
		"":                   true,
		"s0":                 true,
		"t15":                true,
		"s16":                false,
		"t-1":                false,
		"s0 t2":              true,
		"s0 t1":              false,
		"s0 s0":              false,
		"s15 s0":             false,
		"s0 s15":             false,
		"t15 t1":             true,
		"t1 t15":             true,
		"t14 t0":             true,
		"s15 t12":            false,
		"s0 t2 s4":           true,
		"s0 t2 s0":           true,
		"s0 t2 s3":           false,
		"s1 s0 t2":           false,
		"s0 t2 s4 s5 t7":     false,
		"s0 s16 s2":          false,
		"s0 t2 s18":          false,
		"s-14 t2":            false,
		sixty:                true,
		sixty + " s0":        false,
		sixty + " t2":        false,
		"s2 " + sixty:        false,
		sixty[3:] + " t0":    true,
		sixty[3:] + " t3":    false,
		sixty[3:] + " t16":   false,
		"t11 " + sixty[3:]:   false,
		"t4 " + sixty[3:]:    true,
		"t5 s0 " + sixty[3:]: false,
	}
}

func TestValidTube(t *testing.T) {
	for s, want := range edgeTubes() {
		if got := impl.ValidTube(tube(s)); got != want || got != isTube(tube(s)) {
			t.Errorf("ValidTube(%s): got %v", s, got)
		}
	}
	for _, tube := range sampleTubes() {
		if !impl.ValidTube(tube) {
			t.Errorf("ValidTube(%s): got false", tubeText(tube))
		}
	}
	random := rand.New(rand.NewSource(31))
	for _, tube := range sampleTubes() {
		if len(tube) == 0 {
			continue
		}
		at := random.Intn(len(tube))
		tube[at].Key = random.Int63n(18) - 1
		if got := impl.ValidTube(tube); got != isTube(tube) {
			t.Errorf("ValidTube(%v): got %v", tube, got)
		}
	}
	for _, r := range badRings() {
		if impl.ValidTube([]impl.Ring{r}) {
			t.Errorf("ValidTube of %v: got true", r)
		}
	}
}

func TestTotalTurn(t *testing.T) {
	for _, tube := range sampleTubes() {
		var want [2]int64
		for _, r := range tube {
			turn := turnOf(r)
			want[0] += turn[0]
			want[1] += turn[1]
		}
		bend, rise, ok := impl.TotalTurn(tube)
		expect(t, "TotalTurn("+tubeText(tube)+")", results(bend, rise, ok), results(want[0], want[1], true))
	}
	for _, c := range []struct{ tube, want string }{
		{"", "[0 0 true]"},
		{"s3", "[0 0 true]"},
		{"t6", "[-7 7 true]"},
		{"t0 t5", "[6 9 true]"},
		{"t0 s2 t0", "[20 0 true]"},
		{"t0 t8 t0 t8", "[0 0 true]"},
	} {
		bend, rise, ok := impl.TotalTurn(tube(c.tube))
		expect(t, "TotalTurn("+c.tube+")", results(bend, rise, ok), c.want)
	}
}

func TestTubePoses(t *testing.T) {
	random := rand.New(rand.NewSource(32))
	fails := 0
	for _, tube := range sampleTubes() {
		for _, far := range []int64{10, 400} {
			around := func(most int64) int64 { return random.Int63n(2*most+1) - most }
			start := impl.Pose{Side: around(100 * far), Height: around(100000), Yaw: around(far), Pitch: around(far)}
			want, isValid := posesBehind(start, tube)
			if !isValid {
				want = nil
				fails++
			}
			poses, ok := impl.TubePoses(start, tube)
			expect(t, fmt.Sprintf("TubePoses(%v, %s)", start, tubeText(tube)), results(poses, ok), results(want, isValid))
		}
	}
	if fails == 0 {
		t.Error("no tube of the samples fails")
	}
}

func TestTubePosesAtTheirLimits(t *testing.T) {
	for _, c := range []struct{ start, tube, want string }{
		{"0,0,1,0", "t0 t5", "[[{0 0 1 0} {1 0 11 0} {12 0 7 9}] true]"},
		{"1,2,3,4", "", "[[{1 2 3 4}] true]"},
		{"100000,-100000,400,-400", "", "[[{100000 -100000 400 -400}] true]"},
		{"100001,0,0,0", "", "[[] false]"},
		{"0,-100001,0,0", "", "[[] false]"},
		{"0,0,401,0", "", "[[] false]"},
		{"0,0,0,-401", "", "[[] false]"},
		{"0,0,390,0", "t0", "[[{0 0 390 0} {390 0 400 0}] true]"},
		{"0,0,391,0", "t0", "[[] false]"},
		{"0,0,391,0", "t1", "[[{0 0 391 0} {391 0 400 4}] true]"},
		{"0,0,0,-390", "t12", "[[{0 0 0 -390} {0 -390 0 -400}] true]"},
		{"0,0,0,-391", "t12", "[[] false]"},
		{"99990,0,10,0", "s0", "[[{99990 0 10 0} {100000 0 10 0}] true]"},
		{"99990,0,10,0", "t8 s0", "[[{99990 0 10 0} {100000 0 0 0} {100000 0 0 0}] true]"},
		{"99990,0,10,0", "t7 s2", "[[] false]"},
		{"99990,0,11,0", "s0", "[[] false]"},
		{"0,0,0,0", "s0 t1", "[[] false]"},
		{"0,0,0,0", "s16", "[[] false]"},
		{"0,-99990,0,-10", "s0 s2", "[[] false]"},
		{"0,-99990,0,-10", "t4 s2", "[[{0 -99990 0 -10} {0 -100000 0 0} {0 -100000 0 0}] true]"},
	} {
		poses, ok := impl.TubePoses(pose(c.start), tube(c.tube))
		expect(t, fmt.Sprintf("TubePoses(%s, %s)", c.start, c.tube), results(poses, ok), c.want)
	}
}

// beside returns a pose near another one, moved back to the limits where it is behind them.
func beside(random *rand.Rand, p impl.Pose, far, turned int64) impl.Pose {
	near := func(n, away, most int64) int64 {
		return max(-most, min(n+random.Int63n(2*away+1)-away, most))
	}
	return impl.Pose{Side: near(p.Side, far, 100000), Height: near(p.Height, far, 100000), Yaw: near(p.Yaw, turned, 400), Pitch: near(p.Pitch, turned, 400)}
}

func TestOffsetsBehindAndSquaresOf(t *testing.T) {
	random := rand.New(rand.NewSource(33))
	built, fails := 0, 0
	for _, a := range sampleAxes() {
		line := posesOf(a)
		for range 6 {
			from := random.Intn(len(line))
			// One ring more than the axis has is tried, too.
			tube := randomTube(random, min(random.Intn(len(line)-from+1), 60))
			start := beside(random, line[from], 20, 12)
			want, sum, isBuilt := offsetsOf(a, int64(from), start, tube)
			if isBuilt {
				built++
			} else {
				fails++
			}
			call := fmt.Sprintf("(%s, %d, %v, %s)", axisText(a), from, start, tubeText(tube))
			offsets, ok := impl.OffsetsBehind(a, int64(from), start, tube)
			expect(t, "OffsetsBehind"+call, results(offsets, ok), results(want, isBuilt))
			squares, ok := impl.SquaresOf(a, int64(from), start, tube)
			expect(t, "SquaresOf"+call, results(squares, ok), results(sum, isBuilt))
		}
	}
	if built == 0 || fails == 0 {
		t.Errorf("%d of the tubes can be built, and %d cannot", built, fails)
	}
}

func TestOffsetsBehindAtTheirLimits(t *testing.T) {
	sixty := strings.TrimSpace(strings.Repeat("s0 s2 ", 30))
	for _, c := range []struct {
		axis  string
		from  int64
		start string
		tube  string
		want  string
	}{
		{"0,0,0,0;4:0,0", 0, "0,0,0,0", "t0 t5", "[[[0 0] [10 0]] true 100 true]"},
		{"0,0,0,0;4:0,0", 2, "0,0,0,0", "t0 t5", "[[[0 0] [10 0]] true 100 true]"},
		{"0,0,0,0;4:0,0", 3, "0,0,0,0", "t0 t5", "[[] false 0 false]"},
		{"0,0,0,0;4:0,0", 3, "5,-6,0,0", "t0", "[[[5 -6]] true 61 true]"},
		{"0,0,0,0;4:0,0", 4, "5,-6,0,0", "", "[[] true 0 true]"},
		{"0,0,0,0;4:0,0", 4, "5,-6,0,0", "t0", "[[] false 0 false]"},
		{"0,0,0,0;4:0,0", 5, "5,-6,0,0", "", "[[] false 0 false]"},
		{"0,0,0,0;4:0,0", 0, "5,-6,0,0", "", "[[] true 0 true]"},
		{"0,0,0,0;4:0,0", -1, "5,-6,0,0", "", "[[] false 0 false]"},
		{"0,0,0,0;4:0,0", -1, "5,-6,0,0", "t0", "[[] false 0 false]"},
		{"0,0,0,0;4:0,0", math.MaxInt64, "0,0,0,0", "t0", "[[] false 0 false]"},
		{"0,0,0,0;4:0,0", math.MinInt64, "0,0,0,0", "t0", "[[] false 0 false]"},
		{"0,0,3,-1;2:1,0;1:0,1", 0, "0,0,3,-1", "t0 s2", "[[[0 0] [9 0]] true 81 true]"},
		{"0,0,3,-1;2:1,0;1:0,1", 1, "3,-1,4,-1", "t0 s2", "[[[0 0] [9 0]] true 81 true]"},
		{"0,0,3,-1;2:1,0;1:0,1", 1, "0,0,0,0", "s0 s2", "[[[-7 2] [-12 3]] true 206 true]"},
		{"0,0,0,0;4:0,0", 0, "100001,0,0,0", "", "[[] false 0 false]"},
		{"0,0,0,0;4:0,0", 0, "0,0,401,0", "s0", "[[] false 0 false]"},
		{"0,0,0,0;4:0,0", 0, "0,0,391,0", "t0", "[[] false 0 false]"},
		{"0,0,0,0;4:0,0", 0, "0,0,0,0", "s0 s1", "[[] false 0 false]"},
		{"0,0,0,0;4:0,0", 0, "0,0,0,0", "s16", "[[] false 0 false]"},
		{"0,0,0,0;4:13,0", 0, "0,0,0,0", "s0", "[[] false 0 false]"},
		{"0,0,0,0", 0, "0,0,0,0", "", "[[] false 0 false]"},
		{"0,0,0,0;59:0,0", 0, "0,0,0,0", sixty, "[[] false 0 false]"},
		{"0,0,0,0;60:0,0", 0, "0,0,0,0", sixty + " s0", "[[] false 0 false]"},
	} {
		offsets, one := impl.OffsetsBehind(axis(c.axis), c.from, pose(c.start), tube(c.tube))
		squares, two := impl.SquaresOf(axis(c.axis), c.from, pose(c.start), tube(c.tube))
		call := fmt.Sprintf("(%s, %d, %s, %s)", c.axis, c.from, c.start, c.tube)
		expect(t, "OffsetsBehind"+call, results(offsets, one, squares, two), c.want)
	}
	far := axis("-100000,100000,0,0;60:0,0")
	offsets, one := impl.OffsetsBehind(far, 0, pose("100000,-100000,0,0"), tube(sixty))
	squares, two := impl.SquaresOf(far, 0, pose("100000,-100000,0,0"), tube(sixty))
	want := slices.Repeat([][]int64{{200000, -200000}}, 60)
	expect(t, "OffsetsBehind of a tube far away", results(offsets, one, squares, two), results(want, true, 4800000000000, true))
}

// bestTube tries all tubes, and counts those with the least sum.
func bestTube(a impl.Axis, from int64, start impl.Pose, before impl.Ring, count int64) (best []impl.Ring, least int64, equal int) {
	for _, tube := range tubesBehind(before, count) {
		_, sum, ok := offsetsOf(a, from, start, tube)
		switch {
		case !ok:
		case best == nil || sum < least:
			best, least, equal = tube, sum, 1
		case sum == least:
			equal++
			if compareTubes(tube, best) < 0 {
				best = tube
			}
		}
	}
	return best, least, equal
}

func TestBestTube(t *testing.T) {
	random := rand.New(rand.NewSource(34))
	tapered, equals, fails := 0, 0, 0
	for i, a := range sampleAxes()[:120] {
		line := posesOf(a)
		count := 1 + int64(i%4)
		// Tubes of 4 rings are many, and are tried less often.
		if count == 4 && i%16 != 3 {
			count = 3
		}
		for range 3 {
			from := random.Intn(len(line))
			start := beside(random, line[from], 12, 12)
			before := allRings()[random.Intn(32)]
			want, least, equal := bestTube(a, int64(from), start, before, count)
			call := fmt.Sprintf("BestTube(%s, %d, %v, %v, %d)", axisText(a), from, start, before, count)
			best, sum, ok := impl.BestTube(a, int64(from), start, before, count)
			expect(t, call, results(best, sum, ok), results(want, least, want != nil))
			if want == nil {
				fails++
				continue
			}
			squares, _ := impl.SquaresOf(a, int64(from), start, best)
			expect(t, "SquaresOf "+call, results(squares), results(sum))
			if equal > 1 {
				equals++
			}
			if count > 1 && best[0].Kind == 1 {
				tapered++
			}
		}
	}
	if tapered < 50 || equals < 50 || fails < 5 {
		t.Errorf("the samples have %d bent tubes, %d tubes with equal sums, and %d tubes that do not exist", tapered, equals, fails)
	}
}

func TestBestTubeAtItsLimits(t *testing.T) {
	for _, c := range []struct {
		axis   string
		from   int64
		start  string
		before string
		count  int64
		want   string
	}{
		{"0,0,0,0;4:0,0", 0, "0,0,0,0", "s0", 2, "s2 s0 0"},
		{"0,0,0,0;4:0,0", 0, "0,0,0,0", "s15", 1, "s1 0"},
		{"0,0,0,0;4:0,0", 0, "0,0,0,0", "t2", 4, "s0 s2 s0 s2 0"},
		{"0,0,0,0;4:0,0", 0, "3,4,0,0", "t13", 1, "s2 25"},
		{"0,0,0,0;4:0,0", 0, "0,0,-10,0", "t1", 2, "t15 s1 237"},
		{"0,0,0,0;4:0,0", 0, "10,0,-10,0", "t3", 2, "t1 s3 17"},
		{"0,0,0,0;4:0,0", 0, "10,0,-10,0", "t2", 2, "t0 s2 0"},
		{"0,0,0,0;4:0,0", 0, "10,0,-10,0", "s2", 1, "s0 0"},
		// The rings end at the last ring of the axis, and one behind it.
		{"0,0,0,0;4:0,0", 2, "0,0,0,0", "s0", 2, "s2 s0 0"},
		{"0,0,0,0;4:0,0", 3, "0,0,0,0", "s0", 2, ""},
		{"0,0,0,0;4:0,0", 3, "0,0,0,0", "s0", 1, "s2 0"},
		{"0,0,0,0;4:0,0", 4, "0,0,0,0", "s0", 1, ""},
		{"0,0,0,0;4:0,0", 5, "0,0,0,0", "s0", 1, ""},
		{"0,0,0,0;4:0,0", -1, "0,0,0,0", "s0", 1, ""},
		{"0,0,0,0;4:0,0", math.MaxInt64, "0,0,0,0", "s0", 4, ""},
		{"0,0,0,0;4:0,0", math.MinInt64, "0,0,0,0", "s0", 4, ""},
		{"0,0,0,0;4:0,0", 0, "0,0,0,0", "s0", 4, "s2 s0 s2 s0 0"},
		{"0,0,0,0;3:0,0", 0, "0,0,0,0", "s0", 4, ""},
		{"0,0,0,0;9:0,0", 0, "0,0,0,0", "s0", 5, ""},
		{"0,0,0,0;9:0,0", 0, "0,0,0,0", "s0", 0, ""},
		{"0,0,0,0;9:0,0", 0, "0,0,0,0", "s0", -1, ""},
		{"0,0,0,0;9:0,0", 0, "0,0,0,0", "s0", math.MaxInt64, ""},
		{"0,0,0,0;9:0,0", 0, "0,0,0,0", "s0", math.MinInt64, ""},
		{"0,0,0,0;9:0,0", 0, "0,0,0,0", "s16", 1, ""},
		{"0,0,0,0;9:0,0", 0, "0,0,0,0", "t-1", 1, ""},
		{"0,0,0,0;9:13,0", 0, "0,0,0,0", "s0", 1, ""},
		{"0,0,0,0", 0, "0,0,0,0", "s0", 1, ""},
		// Only the rings that bend back stay within the limits of a pose.
		{"100000,0,0,0;9:0,0", 0, "99995,0,5,0", "s0", 2, "t8 s0 25"},
		{"100000,0,0,0;9:0,0", 0, "99991,0,9,0", "s1", 2, "t9 s1 16"},
		{"100000,0,0,0;9:0,0", 0, "99990,0,10,0", "s2", 2, ""},
		{"100000,0,0,0;9:0,0", 0, "99990,0,10,0", "s3", 2, "t8 s0 0"},
		{"100000,0,0,0;9:0,0", 0, "99990,0,10,0", "s2", 1, "s0 0"},
		{"100000,0,0,0;9:0,0", 0, "99990,0,11,0", "s2", 1, ""},
		{"0,0,0,0;9:0,0", 0, "0,0,400,0", "s0", 1, "s2 160000"},
		{"0,0,0,0;9:0,0", 0, "0,0,401,0", "s0", 1, ""},
		{"0,0,0,0;9:0,0", 0, "0,-100001,0,5", "s0", 1, ""},
		{"-100000,100000,0,0;4:0,0", 0, "100000,-100000,0,0", "s8", 1, "s0 80000000000"},
	} {
		call := fmt.Sprintf("BestTube(%s, %d, %s, %s, %d)", c.axis, c.from, c.start, c.before, c.count)
		best, sum, ok := impl.BestTube(axis(c.axis), c.from, pose(c.start), ring(c.before), c.count)
		got := ""
		if ok {
			got = fmt.Sprintf("%s %d", tubeText(best), sum)
		} else if len(best) > 0 || sum != 0 {
			t.Errorf("%s fails and returns %v and %d", call, best, sum)
		}
		expect(t, call, got, c.want)
	}
}

// nearestTurn tries all tubes, and counts those that are nearest.
func nearestTurn(before impl.Ring, count, bend, rise int64) (nearest []impl.Ring, least int64, equal int) {
	for _, tube := range tubesBehind(before, count) {
		far := [2]int64{bend, rise}
		for _, r := range tube {
			turn := turnOf(r)
			far[0] -= turn[0]
			far[1] -= turn[1]
		}
		miss := max(far[0], -far[0]) + max(far[1], -far[1])
		switch {
		case nearest == nil || miss < least:
			nearest, least, equal = tube, miss, 1
		case miss == least:
			equal++
			if compareTubes(tube, nearest) < 0 {
				nearest = tube
			}
		}
	}
	return nearest, least, equal
}

func TestNearestTurn(t *testing.T) {
	random := rand.New(rand.NewSource(35))
	equals := 0
	for i := range 240 {
		count := 1 + int64(i%4)
		if count == 4 && i%16 != 3 {
			count = 2
		}
		// Turns that can be reached, some that cannot, and some that are far away.
		most := []int64{5, 10 * count, 20 * count, 100000}[random.Intn(4)]
		bend, rise := random.Int63n(2*most+1)-most, random.Int63n(2*most+1)-most
		before := allRings()[random.Intn(32)]
		want, least, equal := nearestTurn(before, count, bend, rise)
		call := fmt.Sprintf("NearestTurn(%v, %d, %d, %d)", before, count, bend, rise)
		nearest, miss, ok := impl.NearestTurn(before, count, bend, rise)
		expect(t, call, results(nearest, miss, ok), results(want, least, true))
		if equal > 1 {
			equals++
		}
	}
	if equals < 50 {
		t.Errorf("the samples have %d tubes with equal sums", equals)
	}
}

func TestNearestTurnOfTurnsThatAreReached(t *testing.T) {
	random := rand.New(rand.NewSource(36))
	for range 200 {
		before := allRings()[random.Intn(32)]
		tube := randomTube(random, 1+random.Intn(4))
		if len(meetingOf(before, tube[0])) > 0 {
			continue
		}
		bend, rise, _ := impl.TotalTurn(tube)
		nearest, miss, ok := impl.NearestTurn(before, int64(len(tube)), bend, rise)
		call := fmt.Sprintf("NearestTurn(%v, %d, %d, %d)", before, len(tube), bend, rise)
		expect(t, call, results(miss, ok), "[0 true]")
		gotBend, gotRise, _ := impl.TotalTurn(nearest)
		expect(t, call, results(gotBend, gotRise), results(bend, rise))
		if compareTubes(nearest, tube) > 0 || !isTube(append([]impl.Ring{before}, nearest...)) {
			t.Errorf("%s: got %s, but there is %s", call, tubeText(nearest), tubeText(tube))
		}
	}
}

func TestNearestTurnAtItsLimits(t *testing.T) {
	for _, c := range []struct {
		before            string
		count, bend, rise int64
		want              string
	}{
		{"s0", 1, 9, 4, "t2 5"},
		{"s0", 1, 0, 0, "s2 0"},
		{"s15", 1, 0, 0, "s1 0"},
		{"s15", 1, 9, 4, "t1 0"},
		{"s0", 2, 14, 14, "t2 t0 10"},
		{"s0", 4, 0, 0, "s2 s0 s2 s0 0"},
		{"s14", 1, 8, 0, "t0 2"},
		{"s13", 1, 10, 0, "t15 5"},
		// The keys 3 and 15 are equally near, the keys 2 and 14 no nearer than straight rings, and t0 no nearer than s0.
		{"t1", 1, 8, 4, "t3 9"},
		{"s0", 1, 20, 0, "s2 20"},
		{"s14", 1, 5, 0, "s0 5"},
		// Both ends of the limits.
		{"s0", 1, 100000, 100000, "t2 199986"},
		{"s0", 1, -100000, 100000, "t5 199987"},
		{"s0", 1, 100000, -100000, "t14 199986"},
		{"s0", 1, -100000, -100000, "t11 199987"},
		{"s0", 1, 100001, 0, ""},
		{"s0", 1, -100001, 0, ""},
		{"s0", 1, 0, 100001, ""},
		{"s0", 1, 0, -100001, ""},
		{"s0", 1, math.MaxInt64, math.MinInt64, ""},
		{"s0", 0, 0, 0, ""},
		{"s0", -1, 0, 0, ""},
		{"s0", 5, 0, 0, ""},
		{"s0", math.MaxInt64, 0, 0, ""},
		{"s0", math.MinInt64, 0, 0, ""},
		{"s16", 1, 0, 0, ""},
		{"t-1", 1, 0, 0, ""},
	} {
		call := fmt.Sprintf("NearestTurn(%s, %d, %d, %d)", c.before, c.count, c.bend, c.rise)
		nearest, miss, ok := impl.NearestTurn(ring(c.before), c.count, c.bend, c.rise)
		got := ""
		if ok {
			got = fmt.Sprintf("%s %d", tubeText(nearest), miss)
		} else if len(nearest) > 0 || miss != 0 {
			t.Errorf("%s fails and returns %v and %d", call, nearest, miss)
		}
		expect(t, call, got, c.want)
	}
}

func TestMirrorTubeAndQuarterTube(t *testing.T) {
	for _, r := range allRings() {
		mirror, one := impl.MirrorTube([]impl.Ring{r})
		quarter, two := impl.QuarterTube([]impl.Ring{r})
		wantMirror, wantQuarter := impl.Ring{Kind: r.Kind, Key: (24 - r.Key) % 16}, impl.Ring{Kind: r.Kind, Key: (r.Key + 4) % 16}
		expect(t, fmt.Sprintf("the images of %v", r), results(mirror, one, quarter, two), results([]impl.Ring{wantMirror}, true, []impl.Ring{wantQuarter}, true))
		turn := turnOf(r)
		expect(t, fmt.Sprintf("the turns of the images of %v", r), results(turnOf(mirror[0]), turnOf(quarter[0])), results([2]int64{-turn[0], turn[1]}, [2]int64{-turn[1], turn[0]}))
	}
	for _, tube := range sampleTubes() {
		text := tubeText(tube)
		bend, rise, _ := impl.TotalTurn(tube)
		mirror, one := impl.MirrorTube(tube)
		mirrorBend, mirrorRise, two := impl.TotalTurn(mirror)
		expect(t, "MirrorTube("+text+")", results(len(mirror), one, mirrorBend, mirrorRise, two), results(len(tube), true, -bend, rise, true))
		again, _ := impl.MirrorTube(mirror)
		expect(t, "the mirror of the mirror of "+text, tubeText(again), text)
		quarter, one := impl.QuarterTube(tube)
		quarterBend, quarterRise, two := impl.TotalTurn(quarter)
		expect(t, "QuarterTube("+text+")", results(len(quarter), one, quarterBend, quarterRise, two), results(len(tube), true, -rise, bend, true))
		for range 3 {
			quarter, _ = impl.QuarterTube(quarter)
		}
		expect(t, "four quarters of "+text, tubeText(quarter), text)
	}
	expectImages(t, "t0 t5 s10 t15", "t8 t3 s14 t9", "t4 t9 s14 t3")
	expectImages(t, "s9 t11", "s15 t13", "s13 t15")
	expectImages(t, "s10 t12", "s14 t12", "s14 t0")
	expectImages(t, "", "", "")
}

func expectImages(t *testing.T, s, wantMirror, wantQuarter string) {
	t.Helper()
	mirror, one := impl.MirrorTube(tube(s))
	quarter, two := impl.QuarterTube(tube(s))
	got := results(tubeText(mirror), one, tubeText(quarter), two)
	expect(t, "the images of "+s, got, results(wantMirror, true, wantQuarter, true))
}

func TestTubeText(t *testing.T) {
	for _, tube := range sampleTubes() {
		want := tubeText(tube)
		text, ok := impl.TubeText(tube)
		expect(t, "TubeText", results(text, ok), results(want, true))
		back, ok := impl.ReadTube(want)
		expect(t, "ReadTube("+want+")", results(back, ok), results(tube, true))
	}
	for s, isValid := range edgeTubes() {
		wantText, wantTube := "", []impl.Ring{}
		if isValid {
			wantText, wantTube = s, tube(s)
		}
		text, ok := impl.TubeText(tube(s))
		expect(t, "TubeText of "+s, results(text, ok), results(wantText, isValid))
		back, ok := impl.ReadTube(s)
		expect(t, "ReadTube("+s+")", results(back, ok), results(wantTube, isValid))
	}
}

// nearlyTubes are texts that are not quite those of a tube.
func nearlyTubes() []string {
	list := []string{" ", "s", "t", "0", "15", "s 0", "S0", "T0", "x0", "st0", "0s", "s0 ", " s0", "s0  t2", "s0,t2", "s0\tt2", "s0\nt2", "s0\n", "s0 t", "s0 2", "s0t2", "s0 t2 ", "s00", "s01", "t02", "s-0", "s+0", "s-1", "s16", "t16", "s017", "s1.0", "s0x1", "s1e0", "s0 t1", "s15 s0", "s0 t2 s3", "s0\x00", "\x00s0", "\xffs0", "\xff0", "s\xff", "s٣", "ś0", "é0", "s18446744073709551616", "s9223372036854775807", "t-9223372036854775808", "-", "s0;t2", "(s0)", "s0 t2 s0 t"}
	sixty := strings.TrimSpace(strings.Repeat("s0 t2 ", 30))
	return append(list, sixty+" s0", sixty+" ", " "+sixty, strings.Repeat("s0 t2 ", 50000), strings.Repeat("s", 100000), strings.Repeat(" ", 100000), strings.Repeat("s0", 100000), "s"+strings.Repeat("1", 100000))
}

func TestReadTubeRefusesOtherTexts(t *testing.T) {
	for _, s := range nearlyTubes() {
		tube, ok := impl.ReadTube(s)
		expect(t, fmt.Sprintf("ReadTube(%.60q)", s), results(tube, ok), "[[] false]")
	}
}

func TestFunctionsRefuseListsThatAreNoTubes(t *testing.T) {
	a := axis("0,0,0,0;60:0,0")
	list := [][]impl.Ring{}
	for s, isValid := range edgeTubes() {
		if !isValid {
			list = append(list, tube(s))
		}
	}
	for _, r := range badRings() {
		list = append(list, []impl.Ring{r}, []impl.Ring{ring("s0"), r}, []impl.Ring{ring("s0"), ring("t2"), r, ring("s0")})
	}
	for _, tube := range list {
		bend, rise, one := impl.TotalTurn(tube)
		poses, two := impl.TubePoses(impl.Pose{}, tube)
		offsets, three := impl.OffsetsBehind(a, 0, impl.Pose{}, tube)
		squares, four := impl.SquaresOf(a, 0, impl.Pose{}, tube)
		mirror, five := impl.MirrorTube(tube)
		quarter, six := impl.QuarterTube(tube)
		text, seven := impl.TubeText(tube)
		got := results(impl.ValidTube(tube), bend, rise, one, poses, two, offsets, three, squares, four, mirror, five, quarter, six, text, seven)
		expect(t, fmt.Sprintf("the rings %v", tube), got, "[false 0 0 false [] false [] false 0 false [] false [] false  false]")
	}
}
