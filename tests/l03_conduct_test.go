package tests

import (
	"math"
	"slices"
	"strings"
	"testing"

	"loop.example/g01099/impl"
)

// drift is what the functions that compare a tube with an axis receive beside the tube.
type drift struct {
	axis        impl.Axis
	from, count int64
	start       impl.Pose
	before      impl.Ring
	bend, rise  int64
}

// callsOfTube calls every function of rings and tubes but ReadTube.
func callsOfTube(t *testing.T, tube []impl.Ring, d drift) string {
	t.Helper()
	r := d.before
	bend, rise, one := impl.TurnOf(r)
	joints, two := impl.JointsOf(r)
	meeting, three := impl.MeetingJoints(r, impl.Ring{Kind: d.bend, Key: d.rise})
	keys, four := impl.NextKeys(r)
	totalBend, totalRise, five := impl.TotalTurn(tube)
	poses, six := impl.TubePoses(d.start, tube)
	offsets, seven := impl.OffsetsBehind(d.axis, d.from, d.start, tube)
	squares, eight := impl.SquaresOf(d.axis, d.from, d.start, tube)
	best, sum, nine := impl.BestTube(d.axis, d.from, d.start, r, d.count)
	nearest, miss, ten := impl.NearestTurn(r, d.count, d.bend, d.rise)
	mirror, eleven := impl.MirrorTube(tube)
	quarter, twelve := impl.QuarterTube(tube)
	text, thirteen := impl.TubeText(tube)
	return results(
		impl.ValidRing(r), impl.ValidTube(tube),
		outcome(t, "TurnOf", one, bend, rise), outcome(t, "JointsOf", two, joints),
		outcome(t, "MeetingJoints", three, meeting), outcome(t, "NextKeys", four, keys),
		outcome(t, "TotalTurn", five, totalBend, totalRise), outcome(t, "TubePoses", six, poses),
		outcome(t, "OffsetsBehind", seven, offsets), outcome(t, "SquaresOf", eight, squares),
		outcome(t, "BestTube", nine, best, sum), outcome(t, "NearestTurn", ten, nearest, miss),
		outcome(t, "MirrorTube", eleven, mirror), outcome(t, "QuarterTube", twelve, quarter),
		outcome(t, "TubeText", thirteen, text),
	)
}

// goodDrift is one for which all functions succeed.
func goodDrift() drift {
	return drift{axis: axis("0,0,3,-1;2:1,0;3:0,1"), from: 1, count: 2, start: pose("5,-2,3,0"), before: ring("t3"), bend: 1, rise: 5}
}

func TestTubesReturnForAllNumbers(t *testing.T) {
	numbers := append(strangeNumbers(), 4, 5, 15, 16, 17, -15, -16, 60, 61, 400, 401, -400, -401, 100000, 100001, -100000, -100001)
	for _, n := range numbers {
		for field := range 14 {
			d := goodDrift()
			rings := tube("s0 t2 s4")
			for i, target := range []*int64{
				&d.from, &d.count, &d.start.Side, &d.start.Height, &d.start.Yaw, &d.start.Pitch,
				&d.before.Kind, &d.before.Key, &d.bend, &d.rise,
				&rings[1].Kind, &rings[1].Key, &d.axis.Start.Side, &d.axis.Curves[0].Rings,
			} {
				if i == field {
					*target = n
				}
			}
			expect(t, "the same calls again", callsOfTube(t, rings, d), callsOfTube(t, slices.Clone(rings), d))
		}
		every := impl.Pose{Side: n, Height: n, Yaw: n, Pitch: n}
		d := drift{axis: axis("0,0,0,0;9:0,0"), from: n, count: n, start: every, before: impl.Ring{Kind: n, Key: n}, bend: n, rise: n}
		rings := []impl.Ring{{Kind: n, Key: n}}
		expect(t, "the same calls again", callsOfTube(t, rings, d), callsOfTube(t, slices.Clone(rings), d))
	}
}

func TestTubesReturnForLongLists(t *testing.T) {
	d := goodDrift()
	d.axis = axis("0,0,0,0;60:0,0")
	want := callsOfTube(t, tube("s0 s1"), d)
	for _, rings := range [][]impl.Ring{
		tube(strings.Repeat("s0 t2 ", 100000)),
		slices.Repeat([]impl.Ring{{Kind: math.MaxInt64, Key: math.MinInt64}}, 100000),
		tube(strings.Repeat("s0 t2 ", 30) + "s0"),
	} {
		expect(t, "a tube with too many rings", callsOfTube(t, rings, d), want)
	}
	d.axis.Curves = slices.Repeat([]impl.Curve{{Rings: math.MaxInt64}}, 100000)
	failing := d
	failing.axis = impl.Axis{}
	expect(t, "an axis with too many curves", callsOfTube(t, nil, d), callsOfTube(t, nil, failing))
}

func TestTubesLeaveTheirArgumentsAsTheyWere(t *testing.T) {
	samples := sampleTubes()[:122]
	for s := range edgeTubes() {
		samples = append(samples, tube(s))
	}
	for _, rings := range samples {
		d := goodDrift()
		d.axis = axis("0,0,0,0;20:1,0;20:-1,1;20:0,-1")
		want := callsOfTube(t, slices.Clone(rings), d)
		given, checkRings := guardedBy(t, rings, impl.Ring{Kind: guard, Key: guard})
		curves, checkCurves := guardedBy(t, d.axis.Curves, impl.Curve{Rings: guard, Bend: guard, Rise: guard})
		d.axis.Curves = curves
		expect(t, "a function of a list with unused capacity", callsOfTube(t, given, d), want)
		checkRings("a function of tubes")
		checkCurves("a function of tubes")
	}
}

func TestReadTubeReturnsForAllTexts(t *testing.T) {
	for _, s := range append(strangeTexts(), nearlyTubes()...) {
		rings, ok := impl.ReadTube(s)
		again, _ := impl.ReadTube(string([]byte(s)))
		expect(t, "ReadTube again", outcome(t, "ReadTube", ok, rings), results([]any{again}, ok))
	}
}

func TestNilAndEmptyTubesAreTheSame(t *testing.T) {
	d := goodDrift()
	expect(t, "an empty list", callsOfTube(t, []impl.Ring{}, d), callsOfTube(t, nil, d))
	text, one := impl.TubeText(nil)
	rings, two := impl.ReadTube("")
	mirror, three := impl.MirrorTube(nil)
	offsets, four := impl.OffsetsBehind(d.axis, 5, d.start, nil)
	expect(t, "the empty tube", results(impl.ValidTube(nil), text, one, rings, two, mirror, three, offsets, four), "[true  true [] true [] true [] true]")
}

// expectNewList checks that a function returns the same list again after the one before was spoiled.
func expectNewList[T any](t *testing.T, name string, fill T, call func() ([]T, bool)) {
	t.Helper()
	list, ok := call()
	want := results(list, ok)
	if !ok || len(list) == 0 {
		t.Fatalf("%s: got %s", name, want)
	}
	spoil(list, fill)
	list, ok = call()
	expect(t, name+" after its result was spoiled", results(list, ok), want)
}

func TestTubesReturnNewLists(t *testing.T) {
	d := goodDrift()
	rings := tube("s0 t2 s4 t15")
	shown := results(rings, d)
	fill := impl.Ring{Kind: guard, Key: guard}
	for name, call := range map[string]func() ([]impl.Ring, bool){
		"MirrorTube":  func() ([]impl.Ring, bool) { return impl.MirrorTube(rings) },
		"QuarterTube": func() ([]impl.Ring, bool) { return impl.QuarterTube(rings) },
		"ReadTube":    func() ([]impl.Ring, bool) { return impl.ReadTube("s0 t2") },
		"BestTube": func() ([]impl.Ring, bool) {
			best, _, ok := impl.BestTube(d.axis, d.from, d.start, d.before, d.count)
			return best, ok
		},
		"NearestTurn": func() ([]impl.Ring, bool) {
			nearest, _, ok := impl.NearestTurn(d.before, d.count, d.bend, d.rise)
			return nearest, ok
		},
	} {
		expectNewList(t, name, fill, call)
	}
	for name, call := range map[string]func() ([]int64, bool){
		"JointsOf":      func() ([]int64, bool) { return impl.JointsOf(d.before) },
		"MeetingJoints": func() ([]int64, bool) { return impl.MeetingJoints(d.before, d.before) },
		"NextKeys":      func() ([]int64, bool) { return impl.NextKeys(d.before) },
	} {
		expectNewList(t, name, guard, call)
	}
	expectNewList(t, "TubePoses", impl.Pose{Side: guard}, func() ([]impl.Pose, bool) { return impl.TubePoses(d.start, rings) })
	expectNewList(t, "OffsetsBehind", nil, func() ([][]int64, bool) {
		return impl.OffsetsBehind(d.axis, d.from, d.start, rings)
	})
	expect(t, "the arguments", results(rings, d), shown)
}

func TestOffsetsBehindReturnsListsOfTheirOwn(t *testing.T) {
	d := goodDrift()
	rings := tube("s0 t2 s4 t15")
	offsets, ok := impl.OffsetsBehind(d.axis, d.from, d.start, rings)
	want, again := impl.OffsetsBehind(d.axis, d.from, d.start, rings)
	if !ok || !again {
		t.Fatal("OffsetsBehind fails")
	}
	for i := range offsets {
		spoil(offsets[i], guard)
		expect(t, "the other offsets", results(offsets[i+1:]), results(want[i+1:]))
	}
	later, _ := impl.OffsetsBehind(d.axis, d.from, d.start, rings)
	expect(t, "OffsetsBehind after its result was spoiled", results(later), results(want))
}
