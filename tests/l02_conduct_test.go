package tests

import (
	"fmt"
	"math"
	"slices"
	"testing"

	"loop.example/g01099/impl"
)

// isZero reports whether a result of a call that failed is a zero value; lists of it are empty.
func isZero(x any) bool {
	switch fmt.Sprint(x) {
	case "0", "", "[]", "false", fmt.Sprint(impl.Pose{}), fmt.Sprint(impl.Axis{}), fmt.Sprint(impl.Machine{}), fmt.Sprint(impl.Course{}), fmt.Sprint(impl.Ground{}), fmt.Sprint(impl.Loss{}), fmt.Sprint(impl.Head{}), fmt.Sprint(impl.Yard{}), fmt.Sprint(impl.Survey{}), fmt.Sprint(impl.Drive{}), fmt.Sprint(impl.Deed{}):
		return true
	}
	return false
}

// outcome shows all results of a call, and fails the test if the call fails and returns something else.
func outcome(t *testing.T, call string, ok bool, others ...any) string {
	t.Helper()
	for _, x := range others {
		if !ok && !isZero(x) {
			t.Errorf("%s fails and returns %v", call, x)
		}
	}
	return results(others, ok)
}

// callsOfAxis calls every function that receives an axis.
func callsOfAxis(t *testing.T, a, b impl.Axis, n int64, tube []impl.Pose, z impl.Zone) string {
	t.Helper()
	rings, one := impl.RingsOf(a)
	bend, rise, two := impl.CurveAt(a, n)
	p, three := impl.PoseAt(a, n)
	poses, four := impl.PosesOf(a)
	normal, five := impl.NormalAxis(a)
	first, rest, six := impl.SplitAxis(a, n)
	joined, seven := impl.JoinAxes(a, b)
	of, eight := impl.AxisOf(tube)
	mirror, nine := impl.MirrorAxis(a)
	back, ten := impl.ReverseAxis(a)
	deviations, eleven := impl.DeviationsOf(a, tube)
	least, at, twelve := impl.ClearanceOf(a, z)
	low, thirteen := impl.LowPoints(a)
	text, fourteen := impl.AxisText(a)
	return results(
		impl.ValidAxis(a),
		outcome(t, "RingsOf", one, rings), outcome(t, "CurveAt", two, bend, rise),
		outcome(t, "PoseAt", three, p), outcome(t, "PosesOf", four, poses),
		outcome(t, "NormalAxis", five, normal), outcome(t, "SplitAxis", six, first, rest),
		outcome(t, "JoinAxes", seven, joined), outcome(t, "AxisOf", eight, of),
		outcome(t, "MirrorAxis", nine, mirror), outcome(t, "ReverseAxis", ten, back),
		outcome(t, "DeviationsOf", eleven, deviations), outcome(t, "ClearanceOf", twelve, least, at),
		outcome(t, "LowPoints", thirteen, low), outcome(t, "AxisText", fourteen, text),
	)
}

func TestAxesReturnForAllNumbers(t *testing.T) {
	numbers := append(strangeNumbers(), 12, 13, -12, -13, 60, 61, 400, 401, -400, -401, 100000, 100001, -100000, -100001)
	good := axis("0,0,3,-1;2:1,0;1:0,1")
	for _, n := range numbers {
		for field := range 12 {
			list := []int64{0, 0, 0, 0, 1, 0, 0, 0, 1, 0, 0, 0}
			list[field] = n
			p := impl.Pose{Side: list[0], Height: list[1], Yaw: list[2], Pitch: list[3]}
			a := impl.Axis{Start: p, Curves: []impl.Curve{{Rings: list[4], Bend: list[5], Rise: list[6]}, {Rings: list[4], Bend: list[6], Rise: list[5]}}}
			z := impl.Zone{From: list[7], Until: list[8], Side: list[9], Height: list[10], Half: list[11]}
			tube := []impl.Pose{p, {Side: n, Height: n, Yaw: n, Pitch: n}}
			for _, call := range []func() string{
				func() string { return callsOfAxis(t, a, good, n, tube, z) },
				func() string { return callsOfAxis(t, good, a, n, tube, z) },
			} {
				expect(t, "the same calls again", call(), call())
			}
			next, ok := impl.NextPose(p, list[5], list[6])
			again, _ := impl.NextPose(p, list[5], list[6])
			expect(t, "NextPose again", outcome(t, "NextPose", ok, next), results([]any{again}, ok))
			if impl.ValidPose(p) != poseIsValid(p) {
				t.Errorf("ValidPose(%v) is wrong", p)
			}
		}
	}
}

func TestAxesReturnForLongLists(t *testing.T) {
	curves := slices.Repeat([]impl.Curve{{Rings: 1}}, 200000)
	wide := slices.Repeat([]impl.Curve{{Rings: math.MaxInt64}}, 8)
	poses := make([]impl.Pose, 200000)
	for _, a := range []impl.Axis{{Curves: curves}, {Curves: wide}} {
		want := callsOfAxis(t, impl.Axis{}, impl.Axis{}, 0, nil, impl.Zone{})
		expect(t, "an axis with too many curves", callsOfAxis(t, a, a, 0, poses, impl.Zone{}), want)
	}
}

func TestAxesLeaveTheirArgumentsAsTheyWere(t *testing.T) {
	fillCurve := impl.Curve{Rings: guard, Bend: guard, Rise: guard}
	fillPose := impl.Pose{Side: guard, Height: guard, Yaw: guard, Pitch: guard}
	axes := sampleAxes()[:60]
	for s := range edgeAxes {
		axes = append(axes, axis(s))
	}
	for i, a := range axes {
		call := "a function of " + axisText(a)
		var checks []func(string)
		guardedAxis := func(a impl.Axis) impl.Axis {
			curves, check := guardedBy(t, a.Curves, fillCurve)
			checks = append(checks, check)
			return impl.Axis{Start: a.Start, Curves: curves}
		}
		tube := []impl.Pose{{}, {Yaw: 1}, {Side: 1, Yaw: 1}}
		given, check := guardedBy(t, tube, fillPose)
		checks = append(checks, check)
		// The second half of the axis is joined with the first half, where there are halves.
		x, y, ok := impl.SplitAxis(a, int64(i%3)+1)
		if !ok {
			x, y = a, axes[0]
		}
		first := callsOfAxis(t, guardedAxis(x), guardedAxis(y), 1, given, impl.Zone{Until: 1})
		second := callsOfAxis(t, x, y, 1, tube, impl.Zone{Until: 1})
		whole := callsOfAxis(t, guardedAxis(a), guardedAxis(a), 1, given, impl.Zone{Until: 1})
		for _, check := range checks {
			check(call)
		}
		expect(t, call, first, second)
		expect(t, call, whole, callsOfAxis(t, a, a, 1, slices.Clone(tube), impl.Zone{Until: 1}))
	}
}

func TestReadAxisReturnsForAllTexts(t *testing.T) {
	for _, s := range append(strangeTexts(), nearlyAxes()...) {
		a, ok := impl.ReadAxis(s)
		again, _ := impl.ReadAxis(string([]byte(s)))
		expect(t, "ReadAxis again", outcome(t, "ReadAxis", ok, a), results([]any{again}, ok))
	}
}

func TestNilAndEmptyAxesAreTheSame(t *testing.T) {
	none := callsOfAxis(t, impl.Axis{}, impl.Axis{}, 0, nil, impl.Zone{})
	empty := impl.Axis{Curves: []impl.Curve{}}
	expect(t, "an axis with an empty list", callsOfAxis(t, empty, empty, 0, []impl.Pose{}, impl.Zone{}), none)
	a := axis("0,0,0,0;1:0,0")
	first, one := impl.DeviationsOf(a, nil)
	second, two := impl.DeviationsOf(a, []impl.Pose{})
	expect(t, "DeviationsOf no poses", results(first, one, second, two), "[[] true [] true]")
}

// spoil overwrites a list and its unused capacity.
func spoil[T any](list []T, fill T) {
	list = list[:cap(list)]
	for i := range list {
		list[i] = fill
	}
}

func TestAxesReturnNewLists(t *testing.T) {
	fill := impl.Curve{Rings: guard}
	text := "0,0,0,-2;2:1,0;2:1,1;1:0,2;1:0,2"
	a := axis(text)
	poses := posesOf(a)
	b := impl.Axis{Start: poses[len(poses)-1], Curves: []impl.Curve{{Rings: 1}}}
	x, y, ok := impl.SplitAxis(a, 3)
	if !ok {
		t.Fatal("SplitAxis fails")
	}
	shown := axisText(y)
	spoil(x.Curves, fill)
	expect(t, "the rest after the first rings were spoiled", axisText(y), shown)
	spoil(y.Curves, fill)
	for name, change := range map[string]func() (impl.Axis, bool){
		"NormalAxis":  func() (impl.Axis, bool) { return impl.NormalAxis(a) },
		"MirrorAxis":  func() (impl.Axis, bool) { return impl.MirrorAxis(a) },
		"ReverseAxis": func() (impl.Axis, bool) { return impl.ReverseAxis(a) },
		"JoinAxes": func() (impl.Axis, bool) {
			return impl.JoinAxes(a, b)
		},
		"ReadAxis": func() (impl.Axis, bool) { return impl.ReadAxis(text) },
		"AxisOf":   func() (impl.Axis, bool) { return impl.AxisOf(posesOf(a)) },
	} {
		first, ok := change()
		want := axisText(first)
		spoil(first.Curves, fill)
		again, _ := change()
		expect(t, name+" after its result was spoiled", axisText(again)+results(ok), want+"[true]")
		expect(t, "the argument of "+name, axisText(a), text)
		expect(t, "the argument of "+name, results(b.Curves), "[[{1 0 0}]]")
	}
	poses, _ = impl.PosesOf(a)
	spoil(poses, impl.Pose{Side: guard})
	again, _ := impl.PosesOf(a)
	expect(t, "PosesOf after its result was spoiled", results(again), results(posesOf(a)))
	expect(t, "the axis", axisText(a), text)
}
