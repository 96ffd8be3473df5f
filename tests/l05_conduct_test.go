package tests

import (
	"math"
	"slices"
	"testing"

	"loop.example/g01099/impl"
)

// trip is what the functions of courses receive.
type trip struct {
	l              impl.Limits
	c, other       impl.Course
	turns          []int64
	turn           int64
	rings, heading int64
	pose, goal     impl.Pose
}

// goodTrip is one for which all functions succeed.
func goodTrip() trip {
	return trip{
		l: limits("3,6"), c: course("1/0/0"), other: course("-3/1/2"),
		turns: numbers("-1,1,0,2"), turn: -1, rings: 4, heading: 0,
		pose: pose("10,5,2,0"), goal: pose("7,5,1,0"),
	}
}

// callsOfCourse calls every function of courses but ReadCourse.
func callsOfCourse(t *testing.T, x trip) string {
	t.Helper()
	next, one := impl.NextCourse(x.l, x.c, x.turn)
	list, two := impl.TurnsFrom(x.l, x.c)
	run, three := impl.RunCourse(x.l, x.c, x.turns)
	steps, four := impl.StepsHome(x.l, x.c)
	home, five := impl.PlanHome(x.l, x.c)
	far, six := impl.FarthestOffset(x.l, x.c)
	both, seven := impl.PlanBoth(x.l, x.c, x.other)
	offsets, eight := impl.OffsetsAfter(x.l, x.c, x.rings, x.heading)
	smooth, sum, nine := impl.SmoothestHome(x.l, x.c, x.rings)
	side, height, ten := impl.CourseOf(x.pose, x.goal)
	return results(
		impl.ValidLimits(x.l), impl.ValidCourse(x.l, x.c), impl.MirrorCourse(x.c), impl.CourseText(x.c),
		outcome(t, "NextCourse", one, next), outcome(t, "TurnsFrom", two, list),
		outcome(t, "RunCourse", three, run), outcome(t, "StepsHome", four, steps),
		outcome(t, "PlanHome", five, home), outcome(t, "FarthestOffset", six, far),
		outcome(t, "PlanBoth", seven, both), outcome(t, "OffsetsAfter", eight, offsets),
		outcome(t, "SmoothestHome", nine, smooth, sum), outcome(t, "CourseOf", ten, side, height),
	)
}

func TestAllFunctionsOfCoursesSucceed(t *testing.T) {
	want := results(
		true, true, course("-1/0/0"), "1/0/0",
		"[[{1 -1 -1}] true]", "[[[-3 -2 -1 0 1 2 3]] true]",
		"[[[{1 -1 -1} {0 0 1} {0 0 0} {0 2 2}]] true]", "[[3] true]",
		"[[[-1 1 0]] true]", "[[1] true]",
		"[[[[-1 1] [1 -2] [0 0]]] true]", "[[[-11 -10 -9 -8 -7 -6 -5 -4 -3 -2 -1 0 1 2 3 4 5 6 7 8 9 10 11 12 13]] true]",
		"[[[-1 1 0 0] 6] true]", "[[{3 1 0} {0 0 0}] true]",
	)
	expect(t, "all functions of courses", callsOfCourse(t, goodTrip()), want)
}

func TestCoursesReturnForAllNumbers(t *testing.T) {
	numbers := append(strangeNumbers(), 4, -4, 6, 7, 8, 9, 10, -10, 11, -11, 40, -40, 41, -41, 400, 401, -401, 1000, 1001, -1000, -1001, 100000, 100001, -100001)
	for _, n := range numbers {
		for field := range 19 {
			x := goodTrip()
			for i, target := range []*int64{
				&x.l.Most, &x.l.Change, &x.c.Offset, &x.c.Heading, &x.c.Turn, &x.other.Offset, &x.other.Heading, &x.other.Turn,
				&x.turns[0], &x.turns[3], &x.turn, &x.rings, &x.heading,
				&x.pose.Side, &x.pose.Yaw, &x.pose.Pitch, &x.goal.Height, &x.goal.Yaw, &x.goal.Pitch,
			} {
				if i == field {
					*target = n
				}
			}
			expect(t, "the same calls again", callsOfCourse(t, x), callsOfCourse(t, x))
		}
		every := impl.Course{Offset: n, Heading: n, Turn: n}
		far := impl.Pose{Side: n, Height: n, Yaw: n, Pitch: n}
		for _, l := range []impl.Limits{limits("3,6"), {Most: n, Change: n}} {
			x := trip{l: l, c: every, other: every, turns: repeated(n, 5), turn: n, rings: n, heading: n, pose: far}
			expect(t, "the same calls again", callsOfCourse(t, x), callsOfCourse(t, x))
			x.goal = impl.Pose{Side: -n, Height: -n, Yaw: -n, Pitch: -n}
			expect(t, "the same calls again", callsOfCourse(t, x), callsOfCourse(t, x))
		}
	}
}

func TestCoursesReturnForLongLists(t *testing.T) {
	x := goodTrip()
	x.turns = repeated(0, 41)
	long := callsOfCourse(t, x)
	x.turns = repeated(0, 1000000)
	expect(t, "a list that is too long", callsOfCourse(t, x), long)
	x.turns = repeated(math.MinInt64, 41)
	expect(t, "a list that is too long", callsOfCourse(t, x), long)
}

func TestCoursesLeaveTheirArgumentsAsTheyWere(t *testing.T) {
	for _, text := range []string{"", "0", "-1,1,0", "-1,1,0,0,0", "4", "-1,1,9223372036854775807"} {
		for _, from := range []string{"1/0/0", "0/0/0", "40/1/0", "41/0/0"} {
			x := goodTrip()
			x.c, x.turns = course(from), plan(text)
			want := callsOfCourse(t, x)
			given, check := guarded(t, x.turns)
			x.turns = given
			expect(t, "a function of turns with unused capacity", callsOfCourse(t, x), want)
			check("RunCourse")
		}
	}
}

func TestReadCourseReturnsForAllTexts(t *testing.T) {
	for _, s := range append(nearlyCourses(), "3/-1/0", "1000/-1000/1000") {
		c, ok := impl.ReadCourse(s)
		again, _ := impl.ReadCourse(string([]byte(s)))
		expect(t, "ReadCourse again", outcome(t, "ReadCourse", ok, c), results([]any{again}, ok))
	}
}

func TestNilAndEmptyListsOfTurnsAreTheSame(t *testing.T) {
	x := goodTrip()
	x.turns = nil
	none := callsOfCourse(t, x)
	x.turns = []int64{}
	expect(t, "an empty list", callsOfCourse(t, x), none)
	run, ok := impl.RunCourse(x.l, x.c, nil)
	expect(t, "RunCourse without turns", results(run, ok), "[[] true]")
}

func TestCoursesReturnNewLists(t *testing.T) {
	x := goodTrip()
	shown := results(x)
	for name, call := range map[string]func() ([]int64, bool){
		"TurnsFrom":    func() ([]int64, bool) { return impl.TurnsFrom(x.l, x.c) },
		"PlanHome":     func() ([]int64, bool) { return impl.PlanHome(x.l, x.c) },
		"OffsetsAfter": func() ([]int64, bool) { return impl.OffsetsAfter(x.l, x.c, x.rings, x.heading) },
		"SmoothestHome": func() ([]int64, bool) {
			turns, _, ok := impl.SmoothestHome(x.l, x.c, x.rings)
			return turns, ok
		},
	} {
		expectNewList(t, name, guard, call)
	}
	expectNewList(t, "RunCourse", impl.Course{Offset: guard}, func() ([]impl.Course, bool) { return impl.RunCourse(x.l, x.c, x.turns) })
	expectNewList(t, "PlanBoth", []int64{guard}, func() ([][]int64, bool) { return impl.PlanBoth(x.l, x.c, x.other) })
	expect(t, "the arguments", results(x), shown)
}

// TestPlanBothReturnsListsOfTheirOwn spoils the turns of one ring after the other, with their unused capacity.
func TestPlanBothReturnsListsOfTheirOwn(t *testing.T) {
	x := goodTrip()
	list, _ := impl.PlanBoth(x.l, x.c, x.other)
	want, _ := impl.PlanBoth(x.l, x.c, x.other)
	for i := range list {
		for j := i; j < len(list); j++ {
			if !slices.Equal(list[j], want[j]) {
				t.Errorf("the turns of ring %d are %v after others were spoiled, not %v", j, list[j], want[j])
			}
		}
		spoil(list[i], guard)
	}
}
