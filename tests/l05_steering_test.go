package tests

import (
	"fmt"
	"math"
	"math/rand"
	"slices"
	"strings"
	"testing"

	"loop.example/g01099/impl"
)

// course returns the course with a text, which need not be valid; it does not use the program.
func course(s string) impl.Course {
	list := numbers(strings.ReplaceAll(s, "/", ","))
	return impl.Course{Offset: list[0], Heading: list[1], Turn: list[2]}
}

// courseText writes the text of any course as the document says.
func courseText(c impl.Course) string { return fmt.Sprintf("%d/%d/%d", c.Offset, c.Heading, c.Turn) }

// plan returns the turns of a text, which may be empty.
func plan(s string) []int64 {
	if s == "" {
		return nil
	}
	return numbers(s)
}

// limits returns the limits with Most and Change.
func limits(s string) impl.Limits {
	list := numbers(s)
	return impl.Limits{Most: list[0], Change: list[1]}
}

// allLimits are all limits that are valid.
func allLimits() []impl.Limits {
	var list []impl.Limits
	for most := int64(1); most <= 3; most++ {
		for change := int64(1); change <= 6; change++ {
			list = append(list, impl.Limits{Most: most, Change: change})
		}
	}
	return list
}

// badLimits are not valid.
func badLimits() []impl.Limits {
	list := []impl.Limits{{}}
	for _, n := range append(strangeNumbers(), 4, 5, 6, 7, 8) {
		if n < 1 || n > 3 {
			list = append(list, impl.Limits{Most: n, Change: 1}, impl.Limits{Most: n, Change: n})
		}
		if n < 1 || n > 6 {
			list = append(list, impl.Limits{Most: 1, Change: n})
		}
	}
	return list
}

// allCourses are all courses that are valid with some limits.
func allCourses(l impl.Limits) []impl.Course {
	var list []impl.Course
	for offset := int64(-40); offset <= 40; offset++ {
		for heading := int64(-10); heading <= 10; heading++ {
			for turn := -l.Most; turn <= l.Most; turn++ {
				list = append(list, impl.Course{Offset: offset, Heading: heading, Turn: turn})
			}
		}
	}
	return list
}

// badCourses are not valid with Most 2.
func badCourses() []impl.Course {
	var list []impl.Course
	for _, n := range append(strangeNumbers(), 40, 41, -41, 10, 11, -11) {
		for _, c := range []impl.Course{{Offset: n}, {Heading: n}, {Turn: n}, {Offset: n, Heading: n, Turn: n}} {
			if !courseIsValid(impl.Limits{Most: 2, Change: 6}, c) {
				list = append(list, c)
			}
		}
	}
	return list
}

// courseIsValid judges courses with valid limits.
func courseIsValid(l impl.Limits, c impl.Course) bool {
	return -40 <= c.Offset && c.Offset <= 40 && -10 <= c.Heading && c.Heading <= 10 && -l.Most <= c.Turn && c.Turn <= l.Most
}

// courseAfter goes one ring further from a valid course as the document says; turn must not be so great that sums overflow.
func courseAfter(l impl.Limits, c impl.Course, turn int64) (impl.Course, bool) {
	next := impl.Course{Offset: c.Offset + c.Heading, Heading: c.Heading + turn, Turn: turn}
	if turn-c.Turn > l.Change || c.Turn-turn > l.Change || !courseIsValid(l, next) {
		return impl.Course{}, false
	}
	return next, true
}

// turnsAfter are the turns that can be taken in a valid course.
func turnsAfter(l impl.Limits, c impl.Course) []int64 {
	var list []int64
	for turn := -l.Most; turn <= l.Most; turn++ {
		if _, ok := courseAfter(l, c, turn); ok {
			list = append(list, turn)
		}
	}
	return list
}

// coursesAlong are the courses behind the turns of a plan, up to one that cannot be taken.
func coursesAlong(l impl.Limits, c impl.Course, turns []int64) []impl.Course {
	var list []impl.Course
	for _, turn := range turns {
		next, ok := courseAfter(l, c, turn)
		if !ok {
			break
		}
		c = next
		list = append(list, c)
	}
	return list
}

// anyCourse returns one of all courses.
func anyCourse(random *rand.Rand, l impl.Limits) impl.Course {
	return impl.Course{Offset: random.Int63n(81) - 40, Heading: random.Int63n(21) - 10, Turn: random.Int63n(2*l.Most+1) - l.Most}
}

func TestLimitsOfSteering(t *testing.T) {
	got := results(impl.MaxAway, impl.MaxAim, impl.MaxSteer, impl.MaxReturn, impl.MaxExact)
	expect(t, "limits", got, "[40 10 3 40 8]")
}

func TestValidLimits(t *testing.T) {
	for most := int64(-2); most <= 9; most++ {
		for change := int64(-2); change <= 9; change++ {
			l := impl.Limits{Most: most, Change: change}
			want := most >= 1 && most <= 3 && change >= 1 && change <= 6
			if impl.ValidLimits(l) != want || impl.ValidCourse(l, impl.Course{}) != want {
				t.Errorf("%v: ValidLimits and ValidCourse are not both %v", l, want)
			}
		}
	}
	for _, l := range badLimits() {
		if impl.ValidLimits(l) {
			t.Errorf("ValidLimits(%v)", l)
		}
	}
}

func TestValidCourse(t *testing.T) {
	for _, l := range allLimits() {
		for offset := int64(-43); offset <= 43; offset++ {
			for heading := int64(-13); heading <= 13; heading++ {
				for turn := int64(-5); turn <= 5; turn++ {
					c := impl.Course{Offset: offset, Heading: heading, Turn: turn}
					if impl.ValidCourse(l, c) != courseIsValid(l, c) {
						t.Errorf("ValidCourse(%v, %v)", l, c)
					}
				}
			}
		}
	}
	for _, c := range badCourses() {
		if impl.ValidCourse(limits("2,6"), c) {
			t.Errorf("ValidCourse(2,6, %v)", c)
		}
	}
}

func TestNextCourse(t *testing.T) {
	for _, l := range allLimits() {
		for _, c := range allCourses(l) {
			for turn := int64(-4); turn <= 4; turn++ {
				want, isCourse := courseAfter(l, c, turn)
				got, ok := impl.NextCourse(l, c, turn)
				if got != want || ok != isCourse {
					t.Fatalf("NextCourse(%v, %v, %d): got %v %v, want %v %v", l, c, turn, got, ok, want, isCourse)
				}
			}
			want := turnsAfter(l, c)
			got, ok := impl.TurnsFrom(l, c)
			if !slices.Equal(got, want) || !ok {
				t.Fatalf("TurnsFrom(%v, %v): got %v %v, want %v", l, c, got, ok, want)
			}
		}
	}
}

func TestNextCourseAtItsLimits(t *testing.T) {
	for _, c := range []struct {
		limits, course string
		turn           int64
		want           string
	}{
		{"3,6", "5/-3/2", 1, "[2/-2/1 true]"},
		{"3,6", "5/-3/2", -3, "[2/-6/-3 true]"},
		// A turn at Most, and one beyond it.
		{"1,6", "0/0/0", 1, "[0/1/1 true]"},
		{"1,6", "0/0/0", 2, "[0/0/0 false]"},
		{"1,6", "0/0/0", -1, "[0/-1/-1 true]"},
		{"1,6", "0/0/0", -2, "[0/0/0 false]"},
		{"3,6", "0/0/0", 3, "[0/3/3 true]"},
		{"3,6", "0/0/0", 4, "[0/0/0 false]"},
		{"3,6", "0/0/0", -3, "[0/-3/-3 true]"},
		{"3,6", "0/0/0", -4, "[0/0/0 false]"},
		// A turn that differs by Change, and by one more.
		{"3,1", "0/0/1", 2, "[0/2/2 true]"},
		{"3,1", "0/0/1", 3, "[0/0/0 false]"},
		{"3,1", "0/0/1", 0, "[0/0/0 true]"},
		{"3,1", "0/0/1", -1, "[0/0/0 false]"},
		{"3,5", "0/0/-3", 2, "[0/2/2 true]"},
		{"3,5", "0/0/-3", 3, "[0/0/0 false]"},
		{"3,6", "0/0/-3", 3, "[0/3/3 true]"},
		{"3,5", "0/0/3", -2, "[0/-2/-2 true]"},
		{"3,5", "0/0/3", -3, "[0/0/0 false]"},
		{"3,6", "0/0/3", -3, "[0/-3/-3 true]"},
		// The next offset is at the limit, and one beyond it.
		{"3,6", "40/0/0", 1, "[40/1/1 true]"},
		{"3,6", "40/1/0", -1, "[0/0/0 false]"},
		{"3,6", "39/1/0", -1, "[40/0/-1 true]"},
		{"3,6", "40/-1/0", 0, "[39/-1/0 true]"},
		{"3,6", "-40/0/0", -1, "[-40/-1/-1 true]"},
		{"3,6", "-40/-1/0", 1, "[0/0/0 false]"},
		{"3,6", "-39/-1/0", 1, "[-40/0/1 true]"},
		{"3,6", "30/10/0", 0, "[40/10/0 true]"},
		{"3,6", "31/10/0", 0, "[0/0/0 false]"},
		// The next heading is at the limit, and one beyond it.
		{"3,6", "0/8/0", 2, "[8/10/2 true]"},
		{"3,6", "0/8/0", 3, "[0/0/0 false]"},
		{"3,6", "0/-8/0", -2, "[-8/-10/-2 true]"},
		{"3,6", "0/-8/0", -3, "[0/0/0 false]"},
		{"3,6", "0/10/0", 0, "[10/10/0 true]"},
		{"3,6", "0/10/0", -3, "[10/7/-3 true]"},
		// A course that is not valid does not go on, even if the next one would be valid.
		{"3,6", "41/-1/0", 0, "[0/0/0 false]"},
		{"3,6", "-41/1/0", 0, "[0/0/0 false]"},
		{"3,6", "0/11/0", -1, "[0/0/0 false]"},
		{"3,6", "0/-11/0", 1, "[0/0/0 false]"},
		{"2,6", "0/0/3", 0, "[0/0/0 false]"},
		{"2,6", "0/0/-3", 0, "[0/0/0 false]"},
		// Limits that are not valid.
		{"0,6", "0/0/0", 0, "[0/0/0 false]"},
		{"4,6", "0/0/0", 0, "[0/0/0 false]"},
		{"3,0", "0/0/0", 0, "[0/0/0 false]"},
		{"3,7", "0/0/0", 0, "[0/0/0 false]"},
	} {
		next, ok := impl.NextCourse(limits(c.limits), course(c.course), c.turn)
		call := fmt.Sprintf("(%s, %s, %d)", c.limits, c.course, c.turn)
		expect(t, "NextCourse"+call, results(courseText(next), ok), c.want)
		run, ran := impl.RunCourse(limits(c.limits), course(c.course), []int64{c.turn})
		want := results([]impl.Course{next}, true)
		if !ok {
			want = "[[] false]"
		}
		expect(t, "RunCourse"+call, results(run, ran), want)
	}
	for _, turn := range strangeNumbers() {
		next, ok := impl.NextCourse(limits("3,6"), course("5/-5/3"), turn)
		want, isCourse := impl.Course{Heading: turn - 5, Turn: turn}, turn >= -3 && turn <= 3
		if !isCourse {
			want = impl.Course{}
		}
		expect(t, fmt.Sprintf("NextCourse with the turn %d", turn), results(next, ok), results(want, isCourse))
	}
}

func TestTurnsFromAtItsLimits(t *testing.T) {
	for _, c := range []struct{ limits, course, want string }{
		{"3,6", "0/0/0", "[[-3 -2 -1 0 1 2 3] true]"},
		{"1,1", "0/0/0", "[[-1 0 1] true]"},
		{"3,1", "0/0/3", "[[2 3] true]"},
		{"3,6", "0/0/-3", "[[-3 -2 -1 0 1 2 3] true]"},
		{"3,5", "0/0/-3", "[[-3 -2 -1 0 1 2] true]"},
		{"3,6", "0/9/0", "[[-3 -2 -1 0 1] true]"},
		{"3,6", "0/-10/0", "[[0 1 2 3] true]"},
		{"3,1", "0/10/3", "[[] true]"},
		{"3,2", "0/10/3", "[[] true]"},
		{"3,3", "0/10/3", "[[0] true]"},
		// The offset goes too far, whatever the turn.
		{"3,6", "40/1/0", "[[] true]"},
		{"3,6", "-40/-1/0", "[[] true]"},
		{"3,6", "40/0/0", "[[-3 -2 -1 0 1 2 3] true]"},
		{"3,6", "41/0/0", "[[] false]"},
		{"3,6", "0/11/0", "[[] false]"},
		{"3,6", "0/0/4", "[[] false]"},
		{"0,6", "0/0/0", "[[] false]"},
		{"3,0", "0/0/0", "[[] false]"},
	} {
		turns, ok := impl.TurnsFrom(limits(c.limits), course(c.course))
		expect(t, fmt.Sprintf("TurnsFrom(%s, %s)", c.limits, c.course), results(turns, ok), c.want)
	}
}

func TestRunCourse(t *testing.T) {
	random := rand.New(rand.NewSource(50))
	counts := map[bool]int{}
	for i := range 20000 {
		l := allLimits()[i%18]
		c := anyCourse(random, l)
		var turns []int64
		here := c
		for range random.Intn(41) {
			if list := turnsAfter(l, here); len(list) > 0 && random.Intn(30) > 0 {
				turns = append(turns, list[random.Intn(len(list))])
			} else {
				turns = append(turns, random.Int63n(9)-4)
			}
			here, _ = courseAfter(l, here, turns[len(turns)-1])
		}
		want := coursesAlong(l, c, turns)
		isRun := len(want) == len(turns)
		if !isRun {
			want = nil
		}
		got, ok := impl.RunCourse(l, c, turns)
		expect(t, fmt.Sprintf("RunCourse(%v, %v, %v)", l, c, turns), results(got, ok), results(want, isRun))
		counts[ok]++
	}
	if counts[true] < 1000 || counts[false] < 1000 {
		t.Errorf("%d of the runs succeed, and %d fail", counts[true], counts[false])
	}
}

func TestRunCourseAtItsLimits(t *testing.T) {
	l := limits("2,4")
	for _, c := range []struct{ course, turns, want string }{
		{"0/0/0", "", "[[] true]"},
		{"40/10/2", "", "[[] true]"},
		{"1/0/0", "-1,1,0", "[[{1 -1 -1} {0 0 1} {0 0 0}] true]"},
		// The first, a middle and the last turn cannot be taken.
		{"1/0/0", "-3,1,0", "[[] false]"},
		{"1/0/0", "-1,3,0", "[[] false]"},
		{"1/0/0", "-1,1,3", "[[] false]"},
		{"40/0/0", "1,0", "[[] false]"},
		{"40/0/0", "1", "[[{40 1 1}] true]"},
		{"41/0/0", "", "[[] false]"},
		{"0/11/0", "", "[[] false]"},
		{"0/0/3", "", "[[] false]"},
		{"41/0/0", "0", "[[] false]"},
	} {
		run, ok := impl.RunCourse(l, course(c.course), plan(c.turns))
		expect(t, fmt.Sprintf("RunCourse(%s, %s)", c.course, c.turns), results(run, ok), c.want)
	}
	for _, bad := range badLimits() {
		run, ok := impl.RunCourse(bad, impl.Course{}, nil)
		expect(t, fmt.Sprintf("RunCourse(%v)", bad), results(run, ok), "[[] false]")
	}
	straight := course("7/0/0")
	for n, want := range map[int]string{
		39: results(slices.Repeat([]impl.Course{straight}, 39), true), 40: results(slices.Repeat([]impl.Course{straight}, 40), true),
		41: "[[] false]", 42: "[[] false]", 100000: "[[] false]",
	} {
		run, ok := impl.RunCourse(l, straight, repeated(0, n))
		expect(t, fmt.Sprintf("RunCourse with %d turns", n), results(run, ok), want)
	}
	for _, n := range strangeNumbers() {
		if n < -2 || n > 2 {
			run, ok := impl.RunCourse(l, straight, []int64{0, n})
			expect(t, fmt.Sprintf("RunCourse with the turn %d", n), results(run, ok), "[[] false]")
		}
	}
}

func TestMirrorCourse(t *testing.T) {
	for _, c := range []struct{ course, want string }{
		{"3/-1/0", "-3/1/0"},
		{"-3/1/-2", "3/-1/2"},
		{"0/0/0", "0/0/0"},
		{"41/11/4", "-41/-11/-4"},
		{"1000/1000/1000", "-1000/-1000/-1000"},
		{"-1000/-1000/-1000", "1000/1000/1000"},
		{"1000/-1000/999", "-1000/1000/-999"},
		{"1001/5/5", "0/0/0"},
		{"-1001/5/5", "0/0/0"},
		{"5/1001/5", "0/0/0"},
		{"5/-1001/5", "0/0/0"},
		{"5/5/1001", "0/0/0"},
		{"5/5/-1001", "0/0/0"},
		{"9223372036854775807/1/1", "0/0/0"},
		{"1/-9223372036854775808/1", "0/0/0"},
		{"1/1/-9223372036854775808", "0/0/0"},
	} {
		expect(t, "MirrorCourse("+c.course+")", courseText(impl.MirrorCourse(course(c.course))), c.want)
	}
	random := rand.New(rand.NewSource(51))
	for i := range 1000 {
		l := allLimits()[i%18]
		c := anyCourse(random, l)
		mirror := impl.MirrorCourse(c)
		expect(t, "the mirror of the mirror", courseText(impl.MirrorCourse(mirror)), courseText(c))
		// In the mirror, opposite turns can be taken, and lead to the mirror.
		for _, turn := range turnsAfter(l, c) {
			next, one := impl.NextCourse(l, c, turn)
			image, two := impl.NextCourse(l, mirror, -turn)
			expect(t, "NextCourse in the mirror", results(one, two, image), results(true, true, impl.MirrorCourse(next)))
		}
	}
}

func TestCourseOf(t *testing.T) {
	for _, c := range []struct{ pose, goal, want string }{
		{"10,5,2,0", "7,5,1,0", "[3/1/0 0/0/0 true]"},
		{"7,5,1,0", "10,5,2,0", "[-3/-1/0 0/0/0 true]"},
		{"1,2,3,4", "0,0,0,0", "[1/3/0 2/4/0 true]"},
		{"0,0,0,0", "1,2,3,4", "[-1/-3/0 -2/-4/0 true]"},
		{"5,5,5,5", "5,5,5,5", "[0/0/0 0/0/0 true]"},
		// Offsets and headings at the limits, and one beyond them.
		{"40,-40,10,-10", "0,0,0,0", "[40/10/0 -40/-10/0 true]"},
		{"-40,40,-10,10", "0,0,0,0", "[-40/-10/0 40/10/0 true]"},
		{"41,0,0,0", "0,0,0,0", "[0/0/0 0/0/0 false]"},
		{"-41,0,0,0", "0,0,0,0", "[0/0/0 0/0/0 false]"},
		{"0,41,0,0", "0,0,0,0", "[0/0/0 0/0/0 false]"},
		{"0,-41,0,0", "0,0,0,0", "[0/0/0 0/0/0 false]"},
		{"0,0,11,0", "0,0,0,0", "[0/0/0 0/0/0 false]"},
		{"0,0,-11,0", "0,0,0,0", "[0/0/0 0/0/0 false]"},
		{"0,0,0,11", "0,0,0,0", "[0/0/0 0/0/0 false]"},
		{"0,0,0,-11", "0,0,0,0", "[0/0/0 0/0/0 false]"},
		{"3,41,1,1", "0,0,0,0", "[0/0/0 0/0/0 false]"},
		{"41,3,1,1", "0,0,0,0", "[0/0/0 0/0/0 false]"},
		{"0,0,0,0", "41,0,0,0", "[0/0/0 0/0/0 false]"},
		{"0,0,0,0", "0,0,0,-11", "[0/0/0 0/0/0 false]"},
		// Poses at the limits, and one beyond them.
		{"100000,-100000,400,-400", "99960,-99960,390,-390", "[40/10/0 -40/-10/0 true]"},
		{"99960,-99960,390,-390", "100000,-100000,400,-400", "[-40/-10/0 40/10/0 true]"},
		{"100001,0,0,0", "100000,0,0,0", "[0/0/0 0/0/0 false]"},
		{"0,-100001,0,0", "0,-100000,0,0", "[0/0/0 0/0/0 false]"},
		{"0,0,401,0", "0,0,400,0", "[0/0/0 0/0/0 false]"},
		{"0,0,0,-401", "0,0,0,-400", "[0/0/0 0/0/0 false]"},
		{"100000,0,0,0", "100001,0,0,0", "[0/0/0 0/0/0 false]"},
		{"0,-100000,0,0", "0,-100001,0,0", "[0/0/0 0/0/0 false]"},
		{"0,0,400,0", "0,0,401,0", "[0/0/0 0/0/0 false]"},
		{"0,0,0,-400", "0,0,0,-401", "[0/0/0 0/0/0 false]"},
		{"100001,0,0,0", "100001,0,0,0", "[0/0/0 0/0/0 false]"},
		{"100000,0,0,0", "-100000,0,0,0", "[0/0/0 0/0/0 false]"},
		{"9223372036854775807,0,0,0", "-9223372036854775808,0,0,0", "[0/0/0 0/0/0 false]"},
		{"9223372036854775807,0,0,0", "9223372036854775807,0,0,0", "[0/0/0 0/0/0 false]"},
	} {
		side, height, ok := impl.CourseOf(pose(c.pose), pose(c.goal))
		expect(t, fmt.Sprintf("CourseOf(%s, %s)", c.pose, c.goal), results(courseText(side), courseText(height), ok), c.want)
	}
	random := rand.New(rand.NewSource(52))
	around := func(most int64) int64 { return random.Int63n(2*most+1) - most }
	counts := map[bool]int{}
	for range 2000 {
		goal := impl.Pose{Side: around(100000), Height: around(100000), Yaw: around(400), Pitch: around(400)}
		side := impl.Course{Offset: around(45), Heading: around(11)}
		height := impl.Course{Offset: around(45), Heading: around(11)}
		p := impl.Pose{Side: goal.Side + side.Offset, Height: goal.Height + height.Offset, Yaw: goal.Yaw + side.Heading, Pitch: goal.Pitch + height.Heading}
		want := poseIsValid(p) && courseIsValid(limits("1,1"), side) && courseIsValid(limits("1,1"), height)
		if !want {
			side, height = impl.Course{}, impl.Course{}
		}
		one, two, ok := impl.CourseOf(p, goal)
		expect(t, fmt.Sprintf("CourseOf(%v, %v)", p, goal), results(one, two, ok), results(side, height, want))
		counts[ok]++
	}
	if counts[true] < 500 || counts[false] < 100 {
		t.Errorf("%d of the poses have courses, and %d have none", counts[true], counts[false])
	}
}

// edgeCourses tells whether courses have a text; most of them are at the limit, or just behind it.
var edgeCourses = map[string]bool{
	"0/0/0":                      true,
	"3/-1/0":                     true,
	"-40/-10/-3":                 true,
	"41/11/4":                    true,
	"1000/1000/1000":             true,
	"-1000/-1000/-1000":          true,
	"999/-999/10":                true,
	"1001/0/0":                   false,
	"-1001/0/0":                  false,
	"0/1001/0":                   false,
	"0/-1001/0":                  false,
	"0/0/1001":                   false,
	"0/0/-1001":                  false,
	"1000000000/0/0":             false,
	"0/-1000000001/0":            false,
	"9223372036854775807/0/0":    false,
	"0/-9223372036854775808/0":   false,
	"0/0/-9223372036854775808":   false,
	"1001/-1001/1001":            false,
	"10000/0/0":                  false,
	"0/1000000/0":                false,
	"0/0/18446744073709551615/1": false,
}

func TestCourseText(t *testing.T) {
	for s, isSmall := range edgeCourses {
		want := ""
		if isSmall {
			want = s
		}
		if strings.Count(s, "/") == 2 {
			expect(t, "CourseText of "+s, impl.CourseText(course(s)), want)
		}
		back, ok := impl.ReadCourse(s)
		wantBack := "0/0/0"
		if isSmall {
			wantBack = s
		}
		expect(t, "ReadCourse("+s+")", results(courseText(back), ok), results(wantBack, isSmall))
	}
	for _, n := range strangeNumbers() {
		for field := range 3 {
			var list [3]int64
			list[field] = n
			c := impl.Course{Offset: list[0], Heading: list[1], Turn: list[2]}
			want := ""
			if n >= -1000 && n <= 1000 {
				want = courseText(c)
			}
			expect(t, "CourseText of "+courseText(c), impl.CourseText(c), want)
		}
	}
	random := rand.New(rand.NewSource(53))
	for range 2000 {
		c := impl.Course{Offset: random.Int63n(2001) - 1000, Heading: random.Int63n(2001) - 1000, Turn: random.Int63n(2001) - 1000}
		want := courseText(c)
		expect(t, "CourseText", impl.CourseText(c), want)
		back, ok := impl.ReadCourse(want)
		expect(t, "ReadCourse("+want+")", results(courseText(back), ok), results(want, true))
	}
}

// nearlyCourses are texts that are not quite those of a course.
func nearlyCourses() []string {
	list := []string{
		"1/2", "1/2/", "/1/2", "1//2", "1//2/3", "1/2/3/", "/1/2/3", "1/2/3/4", "1", "/", "//", "///", "1/2//",
		" 1/2/3", "1/2/3 ", "1 /2/3", "1/ 2/3", "1/2/3\n", "1/2/3\x00", "\t1/2/3", "1/2/\r3",
		"01/2/3", "1/02/3", "1/2/03", "00/0/0", "-0/0/0", "0/-0/0", "0/0/-0", "+1/2/3", "1/+2/3", "1/2/+3", "--1/2/3", "1/2/--3", "-/2/3", "1/-/3", "1/2/-",
		"1,2,3", "1/2,3", "1:2:3", "1\\2\\3", "1|2|3", "1;2;3", "(1/2/3)", "a/2/3", "1/a/3", "1/2/a", "1/2/3a", "1/2/3.0", "1e1/2/3", "1/0x2/3", "1/2/1_0",
		"1/2/٣", "\xff/2/3", "1/2/\xff", "½/2/3", "1/2/３",
		"18446744073709551616/2/3", "1/18446744073709551618/3", "1/2/-18446744073709551613", "1/2/4294967299",
		strings.Repeat("1/", 100000) + "1", "1/2/" + strings.Repeat("3", 100000), "1/2/" + strings.Repeat("0", 100000), strings.Repeat("/", 100000), strings.Repeat("0", 100000) + "/2/3",
	}
	for s, isSmall := range edgeCourses {
		if !isSmall {
			list = append(list, s)
		}
	}
	return append(list, strangeTexts()...)
}

func TestReadCourseRefusesOtherTexts(t *testing.T) {
	for _, s := range nearlyCourses() {
		c, ok := impl.ReadCourse(s)
		expect(t, fmt.Sprintf("ReadCourse(%.60q)", s), results(c, ok), "[{0 0 0} false]")
	}
}

func TestFunctionsRefuseCoursesThatAreNotValid(t *testing.T) {
	type pick struct {
		l impl.Limits
		c impl.Course
	}
	var picks []pick
	for _, c := range badCourses() {
		picks = append(picks, pick{limits("2,6"), c})
	}
	for _, l := range badLimits() {
		picks = append(picks, pick{l, impl.Course{}}, pick{l, course("1/0/0")}, pick{l, impl.Course{Turn: l.Most}})
	}
	for _, turn := range []int64{2, -2, math.MaxInt64, math.MinInt64} {
		picks = append(picks, pick{limits("1,1"), impl.Course{Turn: turn}})
	}
	none := impl.Course{}
	for _, p := range picks {
		next, one := impl.NextCourse(p.l, p.c, 0)
		turns, two := impl.TurnsFrom(p.l, p.c)
		run, three := impl.RunCourse(p.l, p.c, nil)
		steps, four := impl.StepsHome(p.l, p.c)
		home, five := impl.PlanHome(p.l, p.c)
		far, six := impl.FarthestOffset(p.l, p.c)
		both, seven := impl.PlanBoth(p.l, p.c, none)
		other, eight := impl.PlanBoth(p.l, none, p.c)
		offsets, nine := impl.OffsetsAfter(p.l, p.c, 0, p.c.Heading)
		smooth, sum, ten := impl.SmoothestHome(p.l, p.c, 0)
		got := results(impl.ValidCourse(p.l, p.c), next, one, turns, two, run, three, steps, four, home, five, far, six, both, seven, other, eight, offsets, nine, smooth, sum, ten)
		want := results(false, none, false, "[]", false, "[]", false, 0, false, "[]", false, 0, false, "[]", false, "[]", false, "[]", false, "[]", 0, false)
		expect(t, fmt.Sprintf("the course %v with %v", p.c, p.l), got, want)
	}
}
