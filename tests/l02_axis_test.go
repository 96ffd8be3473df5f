package tests

import (
	"fmt"
	"math/rand"
	"slices"
	"strconv"
	"strings"
	"testing"

	"loop.example/g01099/impl"
)

// axis returns the axis with a text, which need not be valid; it does not use the program.
func axis(s string) impl.Axis {
	parts := strings.Split(s, ";")
	a := impl.Axis{Start: pose(parts[0])}
	for _, part := range parts[1:] {
		n := numbers(strings.Replace(part, ":", ",", 1))
		a.Curves = append(a.Curves, impl.Curve{Rings: n[0], Bend: n[1], Rise: n[2]})
	}
	return a
}

func pose(s string) impl.Pose {
	n := numbers(s)
	return impl.Pose{Side: n[0], Height: n[1], Yaw: n[2], Pitch: n[3]}
}

func numbers(s string) []int64 {
	var list []int64
	for _, word := range strings.Split(s, ",") {
		n, err := strconv.ParseInt(word, 10, 64)
		if err != nil {
			panic(err)
		}
		list = append(list, n)
	}
	return list
}

// axisText writes the text of any axis as the document says.
func axisText(a impl.Axis) string {
	s := fmt.Sprintf("%d,%d,%d,%d", a.Start.Side, a.Start.Height, a.Start.Yaw, a.Start.Pitch)
	for _, c := range a.Curves {
		s += fmt.Sprintf(";%d:%d,%d", c.Rings, c.Bend, c.Rise)
	}
	return s
}

// bendsByRing returns Bend and Rise of each ring of an axis.
func bendsByRing(a impl.Axis) [][2]int64 {
	var list [][2]int64
	for _, c := range a.Curves {
		list = append(list, slices.Repeat([][2]int64{{c.Bend, c.Rise}}, int(c.Rings))...)
	}
	return list
}

// posesOf returns the poses of an axis, each of them summed up from the start on.
func posesOf(a impl.Axis) []impl.Pose {
	bends := bendsByRing(a)
	var list []impl.Pose
	for n := range len(bends) + 1 {
		p := a.Start
		for ring, bend := range bends[:n] {
			// What a ring bends has an effect on the heading at once, and on the place in each ring behind it.
			behind := int64(n - 1 - ring)
			p.Yaw += bend[0]
			p.Pitch += bend[1]
			p.Side += behind * bend[0]
			p.Height += behind * bend[1]
		}
		p.Side += int64(n) * a.Start.Yaw
		p.Height += int64(n) * a.Start.Pitch
		list = append(list, p)
	}
	return list
}

// withBends returns the axis that begins with a pose and has one curve for each longest row of equal bends.
func withBends(start impl.Pose, bends [][2]int64) impl.Axis {
	a := impl.Axis{Start: start}
	for i, bend := range bends {
		if i > 0 && bends[i-1] == bend {
			a.Curves[len(a.Curves)-1].Rings++
			continue
		}
		a.Curves = append(a.Curves, impl.Curve{Rings: 1, Bend: bend[0], Rise: bend[1]})
	}
	return a
}

func poseIsValid(p impl.Pose) bool {
	fits := func(n, most int64) bool { return -most <= n && n <= most }
	return fits(p.Side, 100000) && fits(p.Height, 100000) && fits(p.Yaw, 400) && fits(p.Pitch, 400)
}

// axisIsValid judges axes whose numbers are not so great that sums overflow.
func axisIsValid(a impl.Axis) bool {
	if len(a.Curves) < 1 || len(a.Curves) > 8 {
		return false
	}
	rings := int64(0)
	for _, c := range a.Curves {
		rings += c.Rings
		if c.Rings < 1 || c.Bend < -12 || c.Bend > 12 || c.Rise < -12 || c.Rise > 12 {
			return false
		}
	}
	return rings <= 60 && !slices.ContainsFunc(posesOf(a), func(p impl.Pose) bool { return !poseIsValid(p) })
}

// sampleAxes are valid: short and long ones, curves that can be merged, poses at the limits, and all sorts of others.
func sampleAxes() []impl.Axis {
	var list []impl.Axis
	for _, s := range []string{
		"0,0,3,-1;2:1,0;1:0,1",
		"0,0,0,0;1:0,0",
		"-100000,100000,0,0;60:0,0",
		"100000,-100000,-400,400;1:0,0",
		"-100000,-100000,400,400;60:0,0",
		"0,0,-400,400;60:12,-12",
		"0,0,0,0;1:1,0;1:1,0;1:1,0;1:1,0;1:1,0;1:1,0;1:1,0;53:1,0",
		"5,6,7,8;8:1,2;8:2,1;8:1,2;8:2,1;7:-3,0;7:0,-3;7:0,0;7:-1,-1",
		"0,0,0,0;2:1,0;2:1,0;1:0,0",
		"0,0,0,0;2:1,0;2:1,1;1:0,1;3:0,1;2:1,1;2:1,1;1:1,0",
		"1,1,1,1;1:12,12;1:-12,-12;1:12,12;1:-12,-12;1:12,12;1:-12,-12;1:12,12;1:0,0",
		"1,1,1,1;1:12,12;1:-12,-12;1:12,12;1:-12,-12;1:12,12;1:-12,-12;1:12,12;1:-12,-12",
		"1,1,1,1;1:12,12;1:-12,-12;1:12,12;1:-12,-12;1:12,12;1:-12,-12;1:12,12;2:-12,-12",
		"9,9,0,-2;2:0,1;1:0,0;2:0,1;4:0,-1;5:0,1",
	} {
		list = append(list, axis(s))
	}
	random := rand.New(rand.NewSource(2))
	for len(list) < 400 {
		// Small ranges make curves that are alike, and great ones make long and bent axes.
		if a := randomAxis(random, 1+random.Int63n(7), 1+random.Int63n(12)); axisIsValid(a) {
			list = append(list, a)
		}
	}
	return list
}

func randomAxis(random *rand.Rand, rings, turn int64) impl.Axis {
	around := func(most int64) int64 { return random.Int63n(2*most+1) - most }
	a := impl.Axis{Start: impl.Pose{Side: around(100000), Height: around(100000), Yaw: around(40), Pitch: around(20)}}
	for range 1 + random.Int63n(8) {
		a.Curves = append(a.Curves, impl.Curve{Rings: 1 + random.Int63n(rings), Bend: around(turn), Rise: around(turn / 2)})
	}
	return a
}

func TestLimitsOfAxes(t *testing.T) {
	got := results(impl.MaxRings, impl.MaxCurves, impl.MaxOffset, impl.MaxHeading, impl.MaxTurn)
	expect(t, "limits", got, "[60 8 100000 400 12]")
}

func TestValidPose(t *testing.T) {
	for _, s := range []string{"0,0,0,0", "100000,100000,400,400", "-100000,-100000,-400,-400", "100000,-100000,400,-400"} {
		expect(t, s, results(impl.ValidPose(pose(s))), "[true]")
	}
	for _, s := range []string{"100001,0,0,0", "-100001,0,0,0", "0,100001,0,0", "0,-100001,0,0", "0,0,401,0", "0,0,-401,0", "0,0,0,401", "0,0,0,-401"} {
		expect(t, s, results(impl.ValidPose(pose(s))), "[false]")
	}
}

func TestNextPose(t *testing.T) {
	for _, c := range []struct {
		from       string
		bend, rise int64
		want       string
	}{
		{"10,20,3,-4", 5, 6, "[{13 16 8 2} true]"},
		{"0,0,0,0", 12, -12, "[{0 0 12 -12} true]"},
		{"0,0,0,0", -12, 12, "[{0 0 -12 12} true]"},
		{"99600,-99600,400,-400", 0, 0, "[{100000 -100000 400 -400} true]"},
		{"-99600,99600,-400,400", 0, 0, "[{-100000 100000 -400 400} true]"},
		{"100000,100000,-1,-1", 0, 0, "[{99999 99999 -1 -1} true]"},
		{"0,0,388,-388", 12, -12, "[{388 -388 400 -400} true]"},
		{"0,0,0,0", 13, 0, "[{0 0 0 0} false]"},
		{"0,0,0,0", -13, 0, "[{0 0 0 0} false]"},
		{"0,0,0,0", 0, 13, "[{0 0 0 0} false]"},
		{"0,0,0,0", 0, -13, "[{0 0 0 0} false]"},
		{"99601,0,400,0", 0, 0, "[{0 0 0 0} false]"},
		{"-99601,0,-400,0", 0, 0, "[{0 0 0 0} false]"},
		{"0,99601,0,400", 0, 0, "[{0 0 0 0} false]"},
		{"0,-99601,0,-400", 0, 0, "[{0 0 0 0} false]"},
		{"0,0,389,0", 12, 0, "[{0 0 0 0} false]"},
		{"0,0,-389,0", -12, 0, "[{0 0 0 0} false]"},
		{"0,0,0,389", 0, 12, "[{0 0 0 0} false]"},
		{"0,0,0,-389", 0, -12, "[{0 0 0 0} false]"},
		// A pose that is not valid has no next one, even if that one would be valid.
		{"100001,0,-5,0", 0, 0, "[{0 0 0 0} false]"},
		{"0,-100001,0,5", 0, 0, "[{0 0 0 0} false]"},
		{"0,0,401,0", -12, 0, "[{0 0 0 0} false]"},
		{"0,0,0,-401", 0, 12, "[{0 0 0 0} false]"},
	} {
		next, ok := impl.NextPose(pose(c.from), c.bend, c.rise)
		expect(t, fmt.Sprintf("NextPose(%s, %d, %d)", c.from, c.bend, c.rise), results(next, ok), c.want)
	}
}

// edgeAxes are at the limits; the ones that are not valid are just behind them.
var edgeAxes = map[string]bool{
	"0,0,0,0":               false,
	"0,0,0,0;0:0,0":         false,
	"0,0,0,0;-1:0,0":        false,
	"0,0,0,0;1:0,0":         true,
	"0,0,0,0;3:0,0;0:1,1":   false,
	"0,0,0,0;3:0,0;-1:1,1":  false,
	"0,0,0,0;60:0,0":        true,
	"0,0,0,0;61:0,0":        false,
	"0,0,0,0;30:0,0;30:1,0": true,
	"0,0,0,0;30:0,0;31:1,0": false,
	"0,0,0,0;1:1,0;1:2,0;1:3,0;1:4,0;1:5,0;1:6,0;1:7,0;1:8,0":       true,
	"0,0,0,0;1:1,0;1:2,0;1:3,0;1:4,0;1:5,0;1:6,0;1:7,0;1:8,0;1:9,0": false,
	"0,0,0,0;1:0,0;1:0,0;1:0,0;1:0,0;1:0,0;1:0,0;1:0,0;1:0,0;1:0,0": false,
	"0,0,0,0;9223372036854775807:0,0;9223372036854775807:0,0;4:0,0": false,
	"0,0,0,0;1:12,-12":                       true,
	"0,0,0,0;1:-12,12":                       true,
	"0,0,0,0;1:13,0":                         false,
	"0,0,0,0;1:-13,0":                        false,
	"0,0,0,0;1:0,13":                         false,
	"0,0,0,0;1:0,-13":                        false,
	"0,0,0,0;1:0,0;1:13,0":                   false,
	"100001,0,-5,0;1:0,0":                    false,
	"0,-100001,0,5;1:0,0":                    false,
	"0,0,401,0;1:-12,0":                      false,
	"0,0,0,401;1:0,-12":                      false,
	"99999,0,1,0;1:0,0":                      true,
	"99999,0,2,0;1:0,0":                      false,
	"0,-99999,0,-1;1:0,0":                    true,
	"0,-99999,0,-2;1:0,0":                    false,
	"0,0,400,-400;1:0,0":                     true,
	"0,0,400,0;1:1,0":                        false,
	"0,0,0,-400;1:0,-1":                      false,
	"0,0,0,0;33:12,0":                        true,
	"0,0,0,0;34:12,0":                        false,
	"0,0,4,0;33:-12,0;27:0,0":                true,
	"0,0,4,0;33:-12,0;1:0,-12;1:-12,0":       false,
	"99990,0,10,0;1:-5,0;1:-5,0;1:0,0":       false,
	"99990,0,10,0;1:-10,0;2:0,0":             true,
	"0,99994,0,3;3:0,-1;1:0,0":               true,
	"0,99995,0,3;3:0,-1;1:0,0;9:0,-12":       false,
	"0,0,390,0;1:10,0;1:-10,0;1:12,0":        false,
	"0,0,390,0;1:10,0;1:-10,0;1:10,0":        true,
	"9223372036854775807,0,1,0;1:0,0":        false,
	"0,0,9223372036854775807,0;1:1,0":        false,
	"0,-9223372036854775808,0,-1;60:0,0":     false,
	"0,0,0,0;1:9223372036854775807,0":        false,
	"0,0,0,0;1:0,-9223372036854775808":       false,
	"0,0,0,0;1:0,0;-9223372036854775808:0,0": false,
}

func TestValidAxis(t *testing.T) {
	for s, want := range edgeAxes {
		if got := impl.ValidAxis(axis(s)); got != want {
			t.Errorf("ValidAxis(%s): got %v", s, got)
		}
	}
	for _, a := range sampleAxes() {
		if !impl.ValidAxis(a) {
			t.Errorf("ValidAxis(%s): got false", axisText(a))
		}
	}
	random := rand.New(rand.NewSource(3))
	for range 2000 {
		a := randomAxis(random, 12, 14)
		a.Start.Yaw *= 10
		if got, want := impl.ValidAxis(a), axisIsValid(a); got != want {
			t.Errorf("ValidAxis(%s): got %v", axisText(a), got)
		}
	}
}

func TestPosesAndCurvesOfAxes(t *testing.T) {
	for _, a := range sampleAxes() {
		text, bends, want := axisText(a), bendsByRing(a), posesOf(a)
		rings, ok := impl.RingsOf(a)
		expect(t, "RingsOf("+text+")", results(rings, ok), results(len(bends), true))
		poses, ok := impl.PosesOf(a)
		expect(t, "PosesOf("+text+")", results(poses, ok), results(want, true))
		for n, p := range want {
			got, ok := impl.PoseAt(a, int64(n))
			expect(t, fmt.Sprintf("PoseAt(%s, %d)", text, n), results(got, ok), results(p, true))
		}
		for ring, turn := range bends {
			bend, rise, ok := impl.CurveAt(a, int64(ring))
			expect(t, fmt.Sprintf("CurveAt(%s, %d)", text, ring), results(bend, rise, ok), results(turn[0], turn[1], true))
		}
		for _, n := range []int64{-1, rings, rings + 1} {
			bend, rise, ok := impl.CurveAt(a, n)
			expect(t, fmt.Sprintf("CurveAt(%s, %d)", text, n), results(bend, rise, ok), "[0 0 false]")
		}
		for _, n := range []int64{-1, rings + 1, rings + 2} {
			p, ok := impl.PoseAt(a, n)
			expect(t, fmt.Sprintf("PoseAt(%s, %d)", text, n), results(p, ok), "[{0 0 0 0} false]")
		}
	}
}

func TestPosesFollowOneAnother(t *testing.T) {
	for _, a := range sampleAxes() {
		poses, _ := impl.PosesOf(a)
		for n := range len(poses) - 1 {
			bend, rise, _ := impl.CurveAt(a, int64(n))
			next, ok := impl.NextPose(poses[n], bend, rise)
			expect(t, fmt.Sprintf("the pose %d of %s", n+1, axisText(a)), results(poses[n+1]), results(next))
			if !ok {
				t.Errorf("the pose %d of %s is not valid", n+1, axisText(a))
			}
		}
	}
}

func TestNormalAxis(t *testing.T) {
	for _, a := range sampleAxes() {
		normal, ok := impl.NormalAxis(a)
		want := withBends(a.Start, bendsByRing(a))
		expect(t, "NormalAxis("+axisText(a)+")", axisText(normal)+results(ok), axisText(want)+"[true]")
		again, _ := impl.NormalAxis(normal)
		expect(t, "NormalAxis of the normal axis", axisText(again), axisText(want))
	}
	normal, _ := impl.NormalAxis(axis("0,0,0,0;2:1,0;1:1,1;3:1,0;4:1,0;1:1,0;1:0,0;1:0,0"))
	expect(t, "NormalAxis", axisText(normal), "0,0,0,0;2:1,0;1:1,1;8:1,0;2:0,0")
}

func TestCurvaturesFollowFromPoses(t *testing.T) {
	for _, a := range sampleAxes() {
		got, ok := impl.AxisOf(posesOf(a))
		want := withBends(a.Start, bendsByRing(a))
		expect(t, "AxisOf the poses of "+axisText(a), axisText(got)+results(ok), axisText(want)+"[true]")
	}
}

func TestAxisOfOtherLists(t *testing.T) {
	straight := posesOf(axis("0,0,5,-5;60:0,0"))
	bent := func(turns int) []impl.Pose {
		a := impl.Axis{}
		for i := range turns {
			a.Curves = append(a.Curves, impl.Curve{Rings: 3, Bend: int64(i) - 4, Rise: int64(i % 2)})
		}
		return posesOf(a)
	}
	for _, c := range []struct {
		name  string
		poses []impl.Pose
		want  string
	}{
		{"no pose", nil, ""},
		{"one pose", straight[:1], ""},
		{"two poses", straight[:2], "0,0,5,-5;1:0,0"},
		{"61 poses", straight, "0,0,5,-5;60:0,0"},
		{"62 poses", posesOf(axis("0,0,5,-5;61:0,0")), ""},
		{"8 curves", bent(8), "0,0,0,0;3:-4,0;3:-3,1;3:-2,0;3:-1,1;3:0,0;3:1,1;3:2,0;3:3,1"},
		{"9 curves", bent(9), ""},
		{"curves that are merged", posesOf(axis("0,0,0,0;1:1,0;1:1,0;1:1,0;1:1,0;1:1,0;1:1,0;1:1,0;1:1,0;1:1,0;1:1,0")), "0,0,0,0;10:1,0"},
		{"a bend of 12", []impl.Pose{{}, {Yaw: 12, Pitch: -12}}, "0,0,0,0;1:12,-12"},
		{"a bend of 13", []impl.Pose{{}, {Yaw: 13}}, ""},
		{"a bend of -13", []impl.Pose{{}, {Yaw: -13}}, ""},
		{"a rise of 13", []impl.Pose{{}, {Pitch: 13}}, ""},
		{"a rise of -13", []impl.Pose{{}, {Pitch: -13}}, ""},
		{"another side", []impl.Pose{{Yaw: 3}, {Side: 2, Yaw: 3}}, ""},
		{"another height", []impl.Pose{{Pitch: 3}, {Height: 4, Pitch: 3}}, ""},
		{"another side at the end", []impl.Pose{{Yaw: 3}, {Side: 3, Yaw: 3}, {Side: 5, Yaw: 3}}, ""},
		{"a start that is not valid", []impl.Pose{{Side: 100001, Yaw: -1}, {Side: 100000, Yaw: -1}}, ""},
		{"an end that is not valid", []impl.Pose{{Side: 100000, Yaw: 1}, {Side: 100001, Yaw: 1}}, ""},
		{"a last heading that is not valid", []impl.Pose{{Pitch: 400}, {Height: 400, Pitch: 401}}, ""},
	} {
		a, ok := impl.AxisOf(c.poses)
		want := c.want + "[true]"
		if c.want == "" {
			want = axisText(impl.Axis{}) + "[false]"
		}
		expect(t, "AxisOf "+c.name, axisText(a)+results(ok), want)
	}
}

func TestSplitAxisAndJoinAxes(t *testing.T) {
	for _, a := range sampleAxes() {
		poses, bends := posesOf(a), bendsByRing(a)
		for n := 1; n < len(bends); n++ {
			call := fmt.Sprintf("SplitAxis(%s, %d)", axisText(a), n)
			x, y, ok := impl.SplitAxis(a, int64(n))
			expect(t, call, results(bendsByRing(x), bendsByRing(y), ok), results(bends[:n], bends[n:], true))
			expect(t, call, results(posesOf(x), posesOf(y)), results(poses[:n+1], poses[n:]))
			checkSplitCurves(t, call, a, x, y, int64(n))
		}
		for _, n := range []int{-1, 0, len(bends), len(bends) + 1} {
			x, y, ok := impl.SplitAxis(a, int64(n))
			expect(t, fmt.Sprintf("SplitAxis(%s, %d)", axisText(a), n), results(x, y, ok), results(impl.Axis{}, impl.Axis{}, false))
		}
	}
}

// checkSplitCurves checks that only a curve that is divided changes, and that the parts can be joined.
func checkSplitCurves(t *testing.T, call string, a, x, y impl.Axis, n int64) {
	t.Helper()
	var ends []int64
	for _, c := range a.Curves {
		n -= c.Rings
		ends = append(ends, n)
	}
	divided := !slices.Contains(ends, 0)
	curves := slices.Concat(x.Curves, y.Curves)
	joined, ok := impl.JoinAxes(x, y)
	wantJoined := axisText(impl.Axis{Start: a.Start, Curves: curves}) + "[true]"
	if len(curves) > 8 {
		wantJoined = axisText(impl.Axis{}) + "[false]"
	}
	expect(t, "JoinAxes of "+call, axisText(joined)+results(ok), wantJoined)
	if !divided {
		expect(t, call, results(curves), results(a.Curves))
		return
	}
	at := len(x.Curves) - 1
	whole := slices.Concat(x.Curves[:at], y.Curves)
	whole[at].Rings += x.Curves[at].Rings
	expect(t, call, results(whole), results(a.Curves))
}

func TestJoinAxes(t *testing.T) {
	for _, c := range []struct{ a, b, want string }{
		{"0,0,1,0;2:0,0", "2,0,1,0;1:0,0", "0,0,1,0;2:0,0;1:0,0"},
		{"0,0,1,0;2:0,0", "2,0,1,0;3:1,1;1:0,0", "0,0,1,0;2:0,0;3:1,1;1:0,0"},
		{"0,0,0,0;4:0,0", "0,0,0,0;4:0,0", "0,0,0,0;4:0,0;4:0,0"},
		{"0,0,1,0;2:0,0", "3,0,1,0;1:0,0", ""},
		{"0,0,1,0;2:0,0", "2,1,1,0;1:0,0", ""},
		{"0,0,1,0;2:0,0", "2,0,0,0;1:0,0", ""},
		{"0,0,1,0;2:0,0", "2,0,1,1;1:0,0", ""},
		{"0,0,1,0;2:0,0", "0,0,1,0;1:0,0", ""},
		{"0,0,0,0;59:0,0", "0,0,0,0;1:0,0", "0,0,0,0;59:0,0;1:0,0"},
		{"0,0,0,0;59:0,0", "0,0,0,0;2:0,0", ""},
		{"0,0,0,0;1:0,0", "0,0,0,0;60:0,0", ""},
		{"0,0,0,0;1:0,0", "0,0,0,0;1:1,0;1:0,0;1:0,0;1:1,0;1:0,0;1:0,0;1:0,0", "0,0,0,0;1:0,0;1:1,0;1:0,0;1:0,0;1:1,0;1:0,0;1:0,0;1:0,0"},
		{"0,0,0,0;1:0,0;1:0,0", "0,0,0,0;1:1,0;1:0,0;1:0,0;1:1,0;1:0,0;1:0,0;1:0,0", ""},
		{"0,0,0,0", "0,0,0,0;1:0,0", ""},
		{"0,0,0,0;1:0,0", "0,0,0,0", ""},
		{"0,0,0,0;1:0,0", "0,0,0,0;1:13,0", ""},
		{"0,0,0,0;0:0,0", "0,0,0,0;1:0,0", ""},
		{"0,0,400,0;1:1,0", "400,0,401,0;1:-1,0", ""},
		{"99999,0,2,0;1:0,0", "100001,0,2,0;1:0,0", ""},
	} {
		a, ok := impl.JoinAxes(axis(c.a), axis(c.b))
		want := c.want + "[true]"
		if c.want == "" {
			want = axisText(impl.Axis{}) + "[false]"
		}
		expect(t, fmt.Sprintf("JoinAxes(%s, %s)", c.a, c.b), axisText(a)+results(ok), want)
	}
}

func TestMirrorAxis(t *testing.T) {
	mirror, _ := impl.MirrorAxis(axis("7,-8,9,-10;2:3,-4;1:3,-4;1:-5,6"))
	expect(t, "MirrorAxis", axisText(mirror), "-7,-8,-9,-10;2:-3,-4;1:-3,-4;1:5,6")
	for _, a := range sampleAxes() {
		mirror, ok := impl.MirrorAxis(a)
		want := posesOf(a)
		for i := range want {
			want[i].Side, want[i].Yaw = -want[i].Side, -want[i].Yaw
		}
		expect(t, "MirrorAxis("+axisText(a)+")", results(posesOf(mirror), ok), results(want, true))
		again, _ := impl.MirrorAxis(mirror)
		expect(t, "the mirror of the mirror", axisText(again), axisText(a))
	}
}

// reversed returns the normal axis from the other end, by the bends of its rings.
func reversed(a impl.Axis) impl.Axis {
	poses, bends := posesOf(a), bendsByRing(a)
	last, before := poses[len(poses)-1], poses[len(poses)-2]
	back := slices.Clone(bends[:len(bends)-1])
	slices.Reverse(back)
	start := impl.Pose{Side: last.Side, Height: last.Height, Yaw: -before.Yaw, Pitch: -before.Pitch}
	return withBends(start, append(back, [2]int64{0, 0}))
}

func TestReverseAxis(t *testing.T) {
	fails := 0
	for _, a := range sampleAxes() {
		call := "ReverseAxis(" + axisText(a) + ")"
		back, ok := impl.ReverseAxis(a)
		want := reversed(a)
		if len(want.Curves) > 8 {
			fails++
			expect(t, call, axisText(back)+results(ok), axisText(impl.Axis{})+"[false]")
			continue
		}
		expect(t, call, axisText(back)+results(ok), axisText(want)+"[true]")
		there, behind := posesOf(a), posesOf(back)
		slices.Reverse(behind)
		for i, p := range there {
			expect(t, call, results(behind[i].Side, behind[i].Height), results(p.Side, p.Height))
		}
	}
	if fails == 0 {
		t.Error("no axis of the samples has too many curves when it is reversed")
	}
}

func TestReverseAxisAtItsLimits(t *testing.T) {
	for _, c := range []struct{ axis, want string }{
		{"0,0,3,-1;2:1,0;1:0,1", "12,-3,-5,1;2:1,0;1:0,0"},
		{"4,5,6,7;1:8,9", "10,12,-6,-7;1:0,0"},
		{"0,0,0,0;1:1,0;1:2,0;1:3,0;1:4,0;1:5,0;1:6,0;1:7,0;1:8,0", "84,0,-28,0;1:7,0;1:6,0;1:5,0;1:4,0;1:3,0;1:2,0;1:1,0;1:0,0"},
		{"0,0,0,0;1:1,0;1:2,0;1:3,0;1:4,0;1:5,0;1:6,0;1:7,0;2:8,0", ""},
		{"0,0,0,0;1:0,0;1:2,0;1:3,0;1:4,0;1:5,0;1:6,0;1:7,0;2:8,0", "112,0,-35,0;1:8,0;1:7,0;1:6,0;1:5,0;1:4,0;1:3,0;1:2,0;2:0,0"},
		{"0,0,0,0;2:1,0;1:1,0;1:3,0;1:4,0;1:5,0;1:6,0;1:7,0;2:8,0", "122,0,-36,0;1:8,0;1:7,0;1:6,0;1:5,0;1:4,0;1:3,0;3:1,0;1:0,0"},
		{"0,0,0,0", ""},
		{"0,0,401,0;2:-12,0", ""},
		{"0,0,0,0;61:0,0", ""},
	} {
		back, ok := impl.ReverseAxis(axis(c.axis))
		want := c.want + "[true]"
		if c.want == "" {
			want = axisText(impl.Axis{}) + "[false]"
		}
		expect(t, "ReverseAxis("+c.axis+")", axisText(back)+results(ok), want)
	}
}

// away is the greater one of the absolute differences of Side and Height.
func away(p impl.Pose, side, height int64) int64 {
	return max(p.Side-side, side-p.Side, p.Height-height, height-p.Height)
}

func TestDeviationsOf(t *testing.T) {
	random := rand.New(rand.NewSource(4))
	for _, a := range sampleAxes() {
		poses := posesOf(a)
		var tube []impl.Pose
		want := []int64{}
		for i := range len(poses) + 1 {
			got, ok := impl.DeviationsOf(a, tube)
			expect(t, fmt.Sprintf("DeviationsOf(%s, %v)", axisText(a), tube), results(got, ok), results(want, true))
			if i == len(poses) {
				break
			}
			p := impl.Pose{Side: max(-100000, min(poses[i].Side+random.Int63n(9)-4, 100000)), Height: max(-100000, min(poses[i].Height+random.Int63n(9)-4, 100000)), Yaw: 400, Pitch: -400}
			tube = append(tube, p)
			want = append(want, away(p, poses[i].Side, poses[i].Height))
		}
		got, ok := impl.DeviationsOf(a, append(tube, impl.Pose{}))
		expect(t, "DeviationsOf one pose too many", results(got, ok), "[[] false]")
	}
	a := axis("-100000,0,0,0;2:0,0")
	for _, c := range []struct{ pose, want string }{
		{"100000,0,0,0", "[[100000 200000] true]"},
		{"-100000,-100000,1,1", "[[100000 100000] true]"},
		{"-99990,-9,0,0", "[[100000 10] true]"},
		{"-99991,10,0,0", "[[100000 10] true]"},
		{"100001,0,0,0", "[[] false]"},
		{"0,0,401,0", "[[] false]"},
		{"0,0,0,-401", "[[] false]"},
		{"0,-100001,0,0", "[[] false]"},
	} {
		got, ok := impl.DeviationsOf(a, []impl.Pose{{}, pose(c.pose)})
		expect(t, "DeviationsOf(0,0,0,0, "+c.pose+")", results(got, ok), c.want)
	}
}

func zone(s string) impl.Zone {
	n := numbers(s)
	return impl.Zone{From: n[0], Until: n[1], Side: n[2], Height: n[3], Half: n[4]}
}

func TestClearanceOf(t *testing.T) {
	random := rand.New(rand.NewSource(5))
	for _, a := range sampleAxes() {
		poses := posesOf(a)
		for range 20 {
			from := random.Intn(len(poses))
			until := from + random.Intn(len(poses)-from)
			near := poses[random.Intn(len(poses))]
			z := impl.Zone{From: int64(from), Until: int64(until), Side: near.Side / 2 * 2, Height: near.Height / 3 * 3, Half: random.Int63n(5)}
			distances := []int64{}
			for _, p := range poses[from : until+1] {
				distances = append(distances, away(p, z.Side, z.Height)-z.Half)
			}
			least := slices.Min(distances)
			first := from + slices.Index(distances, least)
			got, at, ok := impl.ClearanceOf(a, z)
			expect(t, fmt.Sprintf("ClearanceOf(%s, %v)", axisText(a), z), results(got, at, ok), results(least, first, true))
		}
	}
}

func TestClearanceOfZonesAtTheirLimits(t *testing.T) {
	for _, c := range []struct{ axis, zone, want string }{
		{"0,0,0,0;60:0,0", "0,60,100000,-100000,0", "[100000 0 true]"},
		{"0,0,0,0;60:0,0", "60,60,-100000,100000,100000", "[0 60 true]"},
		{"100000,0,0,0;5:0,0", "0,5,-100000,0,0", "[200000 0 true]"},
		{"0,0,0,0;5:0,0", "2,5,0,0,100000", "[-100000 2 true]"},
		{"0,0,4,0;5:-1,0", "0,5,0,0,1", "[-1 0 true]"},
		{"0,0,4,0;5:-1,0", "1,5,0,0,1", "[3 1 true]"},
		{"0,0,4,0;5:-1,0", "1,5,9,0,1", "[-1 3 true]"},
		{"0,0,4,0;5:-1,0", "3,4,8,0,1", "[0 3 true]"},
		{"0,0,4,0;5:-1,0", "5,5,0,0,0", "[10 5 true]"},
		{"0,0,4,0;5:-1,0", "5,6,0,0,0", "[0 0 false]"},
		{"0,0,4,0;5:-1,0", "6,6,0,0,0", "[0 0 false]"},
		{"0,0,4,0;5:-1,0", "3,2,0,0,0", "[0 0 false]"},
		{"0,0,4,0;5:-1,0", "-1,2,0,0,0", "[0 0 false]"},
		{"0,0,4,0;5:-1,0", "-2,-1,0,0,0", "[0 0 false]"},
		{"0,0,0,0;60:0,0", "0,61,0,0,0", "[0 0 false]"},
		{"0,0,4,0;5:-1,0", "0,5,100001,0,0", "[0 0 false]"},
		{"0,0,4,0;5:-1,0", "0,5,-100001,0,0", "[0 0 false]"},
		{"0,0,4,0;5:-1,0", "0,5,0,100001,0", "[0 0 false]"},
		{"0,0,4,0;5:-1,0", "0,5,0,-100001,0", "[0 0 false]"},
		{"0,0,4,0;5:-1,0", "0,5,0,0,-1", "[0 0 false]"},
		{"0,0,4,0;5:-1,0", "0,5,0,0,100001", "[0 0 false]"},
		{"0,0,4,0;5:-13,0", "0,5,0,0,0", "[0 0 false]"},
		{"0,0,4,0", "0,0,0,0,0", "[0 0 false]"},
	} {
		least, at, ok := impl.ClearanceOf(axis(c.axis), zone(c.zone))
		expect(t, fmt.Sprintf("ClearanceOf(%s, %s)", c.axis, c.zone), results(least, at, ok), c.want)
	}
}

// lowPoints looks for the end of the level on both sides of each pose.
func lowPoints(poses []impl.Pose) []int64 {
	list := []int64{}
	for i := range poses {
		here, left, right := poses[i].Height, i, i
		for left >= 0 && poses[left].Height == here {
			left--
		}
		for right < len(poses) && poses[right].Height == here {
			right++
		}
		isFirst := left == i-1
		if isFirst && left >= 0 && right < len(poses) && poses[left].Height > here && poses[right].Height > here {
			list = append(list, int64(i))
		}
	}
	return list
}

func TestLowPoints(t *testing.T) {
	for _, a := range sampleAxes() {
		low, ok := impl.LowPoints(a)
		expect(t, "LowPoints("+axisText(a)+")", results(low, ok), results(lowPoints(posesOf(a)), true))
	}
	random := rand.New(rand.NewSource(6))
	for range 2000 {
		// Pitches near 0 make levels of several poses.
		a := randomAxis(random, 4, 4)
		a.Start.Pitch = random.Int63n(7) - 3
		if !axisIsValid(a) {
			continue
		}
		low, ok := impl.LowPoints(a)
		expect(t, "LowPoints("+axisText(a)+")", results(low, ok), results(lowPoints(posesOf(a)), true))
	}
}

func TestLowPointsOfLevels(t *testing.T) {
	for _, c := range []struct{ axis, want string }{
		{"0,0,0,-2;2:0,1;1:0,0;2:0,1", "[[2] true]"},                       // heights 0 -2 -3 -3 -3 -2: the level begins at 2
		{"0,0,0,-1;1:0,2;1:0,0", "[[1] true]"},                             // 0 -1 0
		{"0,0,0,-1;1:0,2;1:0,-2;1:0,2;1:0,0", "[[1 3] true]"},              // 0 -1 0 -1 0
		{"0,0,0,-1;1:0,2;1:0,-4;1:0,4;1:0,0", "[[1 3] true]"},              // 0 -1 0 -3 -1
		{"0,0,0,-1;1:0,1;1:0,-1;1:0,2;1:0,0", "[[3] true]"},                // 0 -1 -1 -2 -1: the first level goes on down
		{"0,0,0,-1;1:0,1;2:0,0;1:0,1;1:0,0", "[[1] true]"},                 // 0 -1 -1 -1 -1 0
		{"0,0,0,0;3:0,1", "[[] true]"},                                     // begins level, with nothing higher in front
		{"0,0,0,-1;1:0,1;3:0,0", "[[] true]"},                              // ends level
		{"0,0,0,-1;4:0,0", "[[] true]"},                                    // falls to the end
		{"0,0,0,1;4:0,0", "[[] true]"},                                     // rises from the start
		{"0,0,0,1;1:0,-1;1:0,0;1:0,-1;1:0,0", "[[] true]"},                 // a hill
		{"0,0,0,0;5:0,0", "[[] true]"},                                     // level
		{"0,0,0,0;1:0,0", "[[] true]"},                                     // too short
		{"0,0,0,0;1:0,-1;1:0,1;1:0,1;1:0,0", "[[2] true]"},                 // 0 0 -1 -1 0
		{"0,0,0,-1;1:0,1;1:0,1;1:0,-1;1:0,-1;1:0,2;1:0,0", "[[1 5] true]"}, // 0 -1 -1 0 0 -1 0
	} {
		low, ok := impl.LowPoints(axis(c.axis))
		expect(t, "LowPoints("+c.axis+")", results(low, ok), c.want)
	}
}

func TestAxisText(t *testing.T) {
	for _, a := range sampleAxes() {
		text, ok := impl.AxisText(a)
		expect(t, "AxisText", results(text, ok), results(axisText(a), true))
		back, ok := impl.ReadAxis(text)
		expect(t, "ReadAxis("+text+")", results(back, ok), results(a, true))
	}
	for s, isValid := range edgeAxes {
		want := results("", false)
		if isValid {
			want = results(s, true)
		}
		text, ok := impl.AxisText(axis(s))
		expect(t, "AxisText", results(text, ok), want)
		back, ok := impl.ReadAxis(s)
		if ok != isValid || ok && axisText(back) != s || !ok && axisText(back) != axisText(impl.Axis{}) {
			t.Errorf("ReadAxis(%s): got %v and %v", s, back, ok)
		}
	}
}

// nearlyAxes are texts that are not quite those of an axis.
func nearlyAxes() []string {
	list := []string{"", ";", "0,0,0,0", "0,0,0,0;", ";1:0,0", "0,0,0;1:0,0", "0,0,0,0,0;1:0,0", "0,0,0,0;1:0", "0,0,0,0;1:0,0,0", "0,0,0,0;1", "0,0,0,0;1,0,0", "0,0,0,0;1:0:0", "0,0,0,0;1:0,0;", "0,0,0,0;;1:0,0", "0,0,0,0;1:0,0;;1:0,0", ";0,0,0,0;1:0,0", "0,0,0,0:1:0,0", "0;0,0,0,0;1:0,0", "0,0,0,0;1:0,0:", "0,0,0,0;:0,0", "0,0,0,0;1:,", "0,0,0,0;1:,0", "0,0,0,0;1:0,", ",0,0,0;1:0,0", "0,0,0,;1:0,0", "-0,0,0,0;1:0,0", "0,0,0,0;1:-0,0", "00,0,0,0;1:0,0", "0,0,0,0;01:0,0", "0,0,0,0;1:+1,0", "+1,0,0,0;1:0,0", "0,0,0,0;1:0,0 ", " 0,0,0,0;1:0,0", "0, 0,0,0;1:0,0", "0,0,0,0;1:0,0\n", "0,0,0,0; 1:0,0", "0,0,0,0;1 :0,0", "0,0,0,0;1:0x1,0", "0,0,0,0;1:1e0,0", "0.0,0,0,0;1:0,0", "-,0,0,0;1:0,0", "0,0,0,0;1:-", "0,0,0,0;-", "0,0,0,0;1:0,0\x00", "\xff0,0,0,0;1:0,0", "0,0,0,0;1:0,٣", "0,0,0,0;9999999999999999999999:0,0", "0,0,0,0;1:0,0;1:0,0;1:0,0;1:0,0;1:0,0;1:0,0;1:0,0;1:0,0;1:0,0", "0,0,0,0;1:0,0;1:0,0;1:0,0;1:0,0;1:0,0;1:0,0;1:0,0;1:0,0;"}
	return append(list, "0,0,0,0"+strings.Repeat(";1:0,0", 100000), strings.Repeat(";", 100000), strings.Repeat("0,", 100000), "0,0,0,0;1:"+strings.Repeat(",", 100000))
}

func TestReadAxisRefusesOtherTexts(t *testing.T) {
	for _, s := range nearlyAxes() {
		a, ok := impl.ReadAxis(s)
		expect(t, fmt.Sprintf("ReadAxis(%.60q)", s), results(a, ok), results(impl.Axis{}, false))
	}
}

func TestFunctionsRefuseAxesThatAreNotValid(t *testing.T) {
	zero := results(impl.Axis{}, false)
	for s, isValid := range edgeAxes {
		if isValid {
			continue
		}
		a := axis(s)
		rings, ok := impl.RingsOf(a)
		expect(t, "RingsOf("+s+")", results(rings, ok), "[0 false]")
		bend, rise, ok := impl.CurveAt(a, 0)
		expect(t, "CurveAt("+s+")", results(bend, rise, ok), "[0 0 false]")
		p, ok := impl.PoseAt(a, 0)
		expect(t, "PoseAt("+s+")", results(p, ok), "[{0 0 0 0} false]")
		poses, ok := impl.PosesOf(a)
		expect(t, "PosesOf("+s+")", results(poses, ok), "[[] false]")
		x, y, ok := impl.SplitAxis(a, 1)
		expect(t, "SplitAxis("+s+")", results(x, y, ok), results(impl.Axis{}, impl.Axis{}, false))
		list, ok := impl.DeviationsOf(a, nil)
		expect(t, "DeviationsOf("+s+")", results(list, ok), "[[] false]")
		least, at, ok := impl.ClearanceOf(a, impl.Zone{})
		expect(t, "ClearanceOf("+s+")", results(least, at, ok), "[0 0 false]")
		list, ok = impl.LowPoints(a)
		expect(t, "LowPoints("+s+")", results(list, ok), "[[] false]")
		for name, change := range map[string]func(impl.Axis) (impl.Axis, bool){"NormalAxis": impl.NormalAxis, "MirrorAxis": impl.MirrorAxis, "ReverseAxis": impl.ReverseAxis} {
			b, ok := change(a)
			expect(t, name+"("+s+")", results(b, ok), zero)
		}
	}
}
