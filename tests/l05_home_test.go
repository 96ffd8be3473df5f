package tests

import (
	"fmt"
	"math/rand"
	"slices"
	"testing"

	"loop.example/g01099/impl"
)

// ways has the fewest rings home of all courses that can come home with some limits.
type ways map[impl.Course]int64

// waysOfLimits keeps the ways of the limits that have been asked for, as they take a while.
var waysOfLimits = map[impl.Limits]ways{}

// waysHome goes back from home, ring by ring, to all courses from which home can be reached.
func waysHome(l impl.Limits) ways {
	if w, isKnown := waysOfLimits[l]; isKnown {
		return w
	}
	before := map[impl.Course][]impl.Course{}
	for _, c := range allCourses(l) {
		for _, turn := range turnsAfter(l, c) {
			next, _ := courseAfter(l, c, turn)
			before[next] = append(before[next], c)
		}
	}
	w := ways{impl.Course{}: 0}
	last := []impl.Course{{}}
	for rings := int64(1); len(last) > 0; rings++ {
		var found []impl.Course
		for _, next := range last {
			for _, c := range before[next] {
				if _, isFound := w[c]; !isFound {
					w[c] = rings
					found = append(found, c)
				}
			}
		}
		last = found
	}
	waysOfLimits[l] = w
	return w
}

// leadsHome reports whether a course can be home after a turn and at most some more rings.
func (w ways) leadsHome(l impl.Limits, c impl.Course, turn, rings int64) bool {
	next, ok := courseAfter(l, c, turn)
	n, isWay := w[next]
	return ok && isWay && n <= rings
}

// leastPlan takes the least turn in each ring with which the course still comes home in the fewest rings.
func (w ways) leastPlan(l impl.Limits, c impl.Course) []int64 {
	var list []int64
	for w[c] > 0 {
		for _, turn := range turnsAfter(l, c) {
			if w.leadsHome(l, c, turn, w[c]-1) {
				list = append(list, turn)
				c, _ = courseAfter(l, c, turn)
				break
			}
		}
	}
	return list
}

// plansHome calls visit with every plan that leads a course home after exactly some rings, in ascending order.
func (w ways) plansHome(l impl.Limits, c impl.Course, rings int64, visit func(turns []int64)) {
	var extend func(c impl.Course, turns []int64)
	extend = func(c impl.Course, turns []int64) {
		left := rings - int64(len(turns))
		if n, isWay := w[c]; !isWay || n > left {
			return
		}
		if left == 0 {
			visit(turns)
			return
		}
		for _, turn := range turnsAfter(l, c) {
			next, _ := courseAfter(l, c, turn)
			extend(next, append(turns[:len(turns):len(turns)], turn))
		}
	}
	extend(c, nil)
}

// farthestAlong is the greatest distance of a course and of those behind the turns of its plan.
func farthestAlong(l impl.Limits, c impl.Course, turns []int64) int64 {
	far := max(c.Offset, -c.Offset)
	for _, next := range coursesAlong(l, c, turns) {
		far = max(far, next.Offset, -next.Offset)
	}
	return far
}

// checkHome compares the way home of a course with that of the ways.
func checkHome(t *testing.T, l impl.Limits, c impl.Course) {
	t.Helper()
	w := waysHome(l)
	steps, one := impl.StepsHome(l, c)
	turns, two := impl.PlanHome(l, c)
	far, three := impl.FarthestOffset(l, c)
	got := results(steps, one, turns, two, far, three)
	want := "[0 false [] false 0 false]"
	if n, isWay := w[c]; isWay {
		least := w.leastPlan(l, c)
		want = results(n, true, least, true, farthestAlong(l, c, least), true)
	}
	expect(t, fmt.Sprintf("the way home of %v with %v", c, l), got, want)
}

func TestPlanHomeOfAllCourses(t *testing.T) {
	l := limits("1,1")
	for _, c := range allCourses(l) {
		checkHome(t, l, c)
	}
}

func TestPlanHomeOfSomeCourses(t *testing.T) {
	random := rand.New(rand.NewSource(54))
	for _, l := range allLimits() {
		counts := map[string]int{}
		for range 120 {
			c := anyCourse(random, l)
			checkHome(t, l, c)
			w := waysHome(l)
			n, isWay := w[c]
			switch {
			case !isWay:
				counts["lost"]++
				continue
			case farthestAlong(l, c, w.leastPlan(l, c)) > max(c.Offset, -c.Offset):
				counts["farther"]++
			default:
				counts["nearer"]++
			}
			plans := 0
			if n <= 8 {
				w.plansHome(l, c, n, func([]int64) { plans++ })
			}
			if plans > 1 {
				counts["several"]++
			}
		}
		if counts["lost"] < 5 || counts["farther"] < 20 || counts["nearer"] < 20 || counts["several"] < 2 {
			t.Errorf("the samples with %v are %v", l, counts)
		}
	}
}

// TestPlanHomeTriesAllPlans does not use the ways: it tries plan by plan, shorter ones first.
func TestPlanHomeTriesAllPlans(t *testing.T) {
	random := rand.New(rand.NewSource(55))
	found := 0
	for i := range 1500 {
		l := allLimits()[i%18]
		c := impl.Course{Offset: random.Int63n(7) - 3, Heading: random.Int63n(7) - 3, Turn: random.Int63n(2*l.Most+1) - l.Most}
		steps, ok := impl.StepsHome(l, c)
		turns, _ := impl.PlanHome(l, c)
		var first []int64
		isFound := false
		for rings := 0; rings <= 4 && !isFound; rings++ {
			first, isFound = firstPlanHome(l, c, rings)
		}
		if isFound {
			found++
			expect(t, fmt.Sprintf("the plan of %v with %v", c, l), results(steps, turns, ok), results(len(first), first, true))
		} else if ok && steps <= 4 {
			t.Errorf("StepsHome(%v, %v): got %d", l, c, steps)
		}
	}
	if found < 300 {
		t.Errorf("only %d of the courses come home soon", found)
	}
}

// firstPlanHome returns the first plan with some rings that leads home, in ascending order.
func firstPlanHome(l impl.Limits, c impl.Course, rings int) ([]int64, bool) {
	if rings == 0 {
		return nil, c == impl.Course{}
	}
	for _, turn := range turnsAfter(l, c) {
		next, _ := courseAfter(l, c, turn)
		if rest, ok := firstPlanHome(l, next, rings-1); ok {
			return append([]int64{turn}, rest...), true
		}
	}
	return nil, false
}

func TestPlanHomeAtItsLimits(t *testing.T) {
	for _, c := range []struct{ limits, course, want string }{
		{"3,6", "0/0/0", "[0 [] 0 true]"},
		{"1,1", "0/0/0", "[0 [] 0 true]"},
		{"3,6", "1/0/0", "[3 [-1 1 0] 1 true]"},
		{"3,6", "-1/0/0", "[3 [1 -1 0] 1 true]"},
		{"3,6", "3/0/0", "[3 [-3 3 0] 3 true]"},
		// The place and the heading are those of home, but the turn is not.
		{"3,6", "0/0/3", "[1 [0] 0 true]"},
		{"3,3", "0/0/3", "[1 [0] 0 true]"},
		{"3,3", "0/0/-3", "[1 [0] 0 true]"},
		{"1,1", "0/0/-1", "[1 [0] 0 true]"},
		// The turn -1 may be followed by 1, or only by 0.
		{"1,2", "1/0/0", "[3 [-1 1 0] 1 true]"},
		{"1,1", "1/0/0", "[8 [-1 0 0 1 1 0 -1 0] 2 true]"},
		// Of several plans with as many rings the least one.
		{"3,6", "4/0/0", "[4 [-3 2 1 0] 4 true]"},
		{"3,6", "-4/0/0", "[4 [1 2 -3 0] 4 true]"},
		// There is no turn that can be taken.
		{"3,6", "40/1/0", "[0 [] 0 false]"},
		{"3,6", "-40/-1/0", "[0 [] 0 false]"},
		{"1,1", "40/10/1", "[0 [] 0 false]"},
		// Turns can be taken, but the offset becomes too great at last.
		{"1,1", "30/10/1", "[0 [] 0 false]"},
		{"1,1", "-30/-10/-1", "[0 [] 0 false]"},
		{"3,6", "30/10/0", "[0 [] 0 false]"},
		// The offset just reaches the limit on the way.
		{"3,6", "37/3/0", "[10 [-3 -3 -3 -3 -1 3 3 3 1 0] 40 true]"},
		{"3,6", "37/4/0", "[0 [] 0 false]"},
		// The offset is at the limit, and one beyond it.
		{"1,6", "40/0/0", "[14 [-1 -1 -1 -1 -1 -1 1 1 0 1 1 1 1 0] 40 true]"},
		{"1,6", "41/0/0", "[0 [] 0 false]"},
		{"1,6", "-40/0/0", "[14 [1 1 1 1 0 1 1 -1 -1 -1 -1 -1 -1 0] 40 true]"},
		{"1,6", "-41/0/0", "[0 [] 0 false]"},
		{"3,6", "1/0/4", "[0 [] 0 false]"},
		{"2,6", "1/0/3", "[0 [] 0 false]"},
		{"3,6", "0/11/0", "[0 [] 0 false]"},
	} {
		l, from := limits(c.limits), course(c.course)
		call := fmt.Sprintf("the way home of %s with %s", c.course, c.limits)
		steps, one := impl.StepsHome(l, from)
		turns, two := impl.PlanHome(l, from)
		far, three := impl.FarthestOffset(l, from)
		expect(t, call, results(steps, turns, far, one), c.want)
		expect(t, call, results(two, three), results(one, one))
	}
}

// TestFarthestCourses shows that no course needs MaxReturn rings: 25 are the most, and only with the narrowest limits.
func TestFarthestCourses(t *testing.T) {
	most := int64(0)
	for _, l := range allLimits() {
		w := waysHome(l)
		rings := int64(0)
		for _, n := range w {
			rings = max(rings, n)
		}
		checked := 0
		for _, c := range allCourses(l) {
			if w[c] == rings && checked < 5 {
				checkHome(t, l, c)
				checked++
			}
		}
		most = max(most, rings)
	}
	steps, ok := impl.StepsHome(limits("1,1"), course("29/-10/-1"))
	expect(t, "the most rings", results(most, steps, ok), "[25 25 true]")
}

func TestPlansInTheMirror(t *testing.T) {
	random := rand.New(rand.NewSource(56))
	for i := range 180 {
		l := allLimits()[i%18]
		c := anyCourse(random, l)
		mirror := impl.MirrorCourse(c)
		one, first := impl.StepsHome(l, c)
		two, second := impl.StepsHome(l, mirror)
		expect(t, fmt.Sprintf("StepsHome of the mirror of %v with %v", c, l), results(two, second), results(one, first))
		rings, heading := random.Int63n(7), random.Int63n(21)-10
		_, one, first = impl.SmoothestHome(l, c, rings)
		_, two, second = impl.SmoothestHome(l, mirror, rings)
		expect(t, fmt.Sprintf("SmoothestHome of the mirror of %v with %v", c, l), results(two, second), results(one, first))
		offsets, _ := impl.OffsetsAfter(l, c, rings, heading)
		images, _ := impl.OffsetsAfter(l, mirror, rings, -heading)
		slices.Reverse(images)
		for i := range images {
			images[i] = -images[i]
		}
		expect(t, fmt.Sprintf("OffsetsAfter of the mirror of %v with %v", c, l), results(images), results(offsets))
	}
}

func TestPlanBoth(t *testing.T) {
	for _, c := range []struct{ limits, side, height, want string }{
		{"3,6", "1/0/0", "0/0/0", "[[[-1 0] [1 0] [0 0]] true]"},
		{"3,6", "0/0/0", "1/0/0", "[[[0 -1] [0 1] [0 0]] true]"},
		{"3,6", "1/0/0", "-3/0/0", "[[[-1 3] [1 -3] [0 0]] true]"},
		// The shorter one is not home at once, and goes on to the end of the other one.
		{"3,6", "4/0/0", "0/0/3", "[[[-3 0] [2 0] [1 0] [0 0]] true]"},
		{"3,6", "0/0/3", "4/0/0", "[[[0 -3] [0 2] [0 1] [0 0]] true]"},
		{"1,1", "1/0/0", "1/-1/0", "[[[-1 1] [0 0] [0 0] [1 0] [1 0] [0 0] [-1 0] [0 0]] true]"},
		{"3,6", "0/0/0", "0/0/0", "[[] true]"},
		{"3,6", "0/0/1", "0/0/-1", "[[[0 0]] true]"},
		// One of both cannot come home, or is not valid.
		{"3,6", "40/1/0", "0/0/0", "[[] false]"},
		{"3,6", "0/0/0", "40/1/0", "[[] false]"},
		{"3,6", "1/0/0", "-40/-1/0", "[[] false]"},
		{"3,6", "40/1/0", "40/1/0", "[[] false]"},
		{"3,6", "41/0/0", "1/0/0", "[[] false]"},
		{"3,6", "1/0/0", "41/0/0", "[[] false]"},
		{"3,6", "1/0/0", "1/0/4", "[[] false]"},
		{"4,6", "1/0/0", "1/0/0", "[[] false]"},
		{"0,0", "0/0/0", "0/0/0", "[[] false]"},
	} {
		list, ok := impl.PlanBoth(limits(c.limits), course(c.side), course(c.height))
		expect(t, fmt.Sprintf("PlanBoth(%s, %s, %s)", c.limits, c.side, c.height), results(list, ok), c.want)
	}
	random := rand.New(rand.NewSource(57))
	counts := map[string]int{}
	for i := range 360 {
		l := allLimits()[i%18]
		side, height := anyCourse(random, l), anyCourse(random, l)
		want, name := bothPlans(l, side, height)
		counts[name]++
		list, ok := impl.PlanBoth(l, side, height)
		expect(t, fmt.Sprintf("PlanBoth(%v, %v, %v)", l, side, height), results(list, ok), results(want, name != "lost"))
	}
	if counts["side"] < 50 || counts["height"] < 50 || counts["same"] < 5 || counts["lost"] < 50 {
		t.Errorf("the longer one of both plans is %v", counts)
	}
}

// bothPlans returns the plans in both directions, and which of them is longer.
func bothPlans(l impl.Limits, side, height impl.Course) ([][]int64, string) {
	w := waysHome(l)
	_, one := w[side]
	_, two := w[height]
	if !one || !two {
		return nil, "lost"
	}
	first, second := w.leastPlan(l, side), w.leastPlan(l, height)
	name := "same"
	if len(first) > len(second) {
		name = "side"
	} else if len(first) < len(second) {
		name = "height"
	}
	for len(first) < len(second) {
		first = append(first, 0)
	}
	for len(second) < len(first) {
		second = append(second, 0)
	}
	var list [][]int64
	for i := range first {
		list = append(list, []int64{first[i], second[i]})
	}
	return list, name
}

// offsetsAfter tries all turns, and remembers only the set of courses after each ring.
func offsetsAfter(l impl.Limits, c impl.Course, rings, heading int64) []int64 {
	reached := map[impl.Course]bool{c: true}
	for range rings {
		next := map[impl.Course]bool{}
		for c := range reached {
			for _, turn := range turnsAfter(l, c) {
				further, _ := courseAfter(l, c, turn)
				next[further] = true
			}
		}
		reached = next
	}
	var list []int64
	for c := range reached {
		if c.Heading == heading {
			list = append(list, c.Offset)
		}
	}
	slices.Sort(list)
	return slices.Compact(list)
}

func TestOffsetsAfter(t *testing.T) {
	random := rand.New(rand.NewSource(58))
	none := 0
	for i := range 900 {
		l := allLimits()[i%18]
		c := anyCourse(random, l)
		rings := int64(i % 9)
		heading := min(max(c.Heading+random.Int63n(9)-4, -11), 11)
		want := offsetsAfter(l, c, rings, heading)
		got, ok := impl.OffsetsAfter(l, c, rings, heading)
		expect(t, fmt.Sprintf("OffsetsAfter(%v, %v, %d, %d)", l, c, rings, heading), results(got, ok), results(want, true))
		if len(want) == 0 {
			none++
		}
	}
	if none < 50 || none > 700 {
		t.Errorf("%d of the sets are empty", none)
	}
}

func TestOffsetsAfterAtItsLimits(t *testing.T) {
	for _, c := range []struct {
		limits, course string
		rings, heading int64
		want           string
	}{
		// No ring at all.
		{"3,6", "1/2/3", 0, 2, "[[1] true]"},
		{"3,6", "1/2/3", 0, 1, "[[] true]"},
		{"3,6", "40/10/3", 0, 10, "[[40] true]"},
		{"3,6", "1/0/0", 1, 2, "[[1] true]"},
		{"3,6", "1/0/0", 1, 3, "[[1] true]"},
		{"3,6", "1/0/0", 1, 4, "[[] true]"},
		{"3,6", "1/0/0", 2, 0, "[[-2 -1 0 1 2 3 4] true]"},
		{"1,1", "0/0/0", 2, 0, "[[0] true]"},
		{"1,2", "0/0/0", 2, 0, "[[-1 0 1] true]"},
		{"1,1", "0/0/0", 2, 2, "[[1] true]"},
		{"1,1", "0/0/0", 3, 1, "[[0 1 2] true]"},
		// Several ways lead to an offset, which is there only once.
		{"1,2", "0/0/0", 4, 0, "[[-4 -3 -2 -1 0 1 2 3 4] true]"},
		// MaxExact rings, and one more.
		{"1,1", "0/0/0", 8, 8, "[[28] true]"},
		{"1,1", "0/0/0", 8, 9, "[[] true]"},
		{"1,1", "0/0/0", 9, 9, "[[] false]"},
		{"1,1", "0/0/0", 9, 0, "[[] false]"},
		{"1,1", "0/0/0", -1, 0, "[[] false]"},
		{"1,1", "0/0/0", 9223372036854775807, 0, "[[] false]"},
		{"1,1", "0/0/0", -9223372036854775808, 0, "[[] false]"},
		// Headings at the limit; a course has no greater one.
		{"3,6", "0/10/0", 1, 10, "[[10] true]"},
		{"3,6", "0/10/0", 1, 11, "[[] true]"},
		{"3,6", "0/-10/0", 1, -11, "[[] true]"},
		{"3,6", "0/0/0", 8, 9223372036854775807, "[[] true]"},
		{"3,6", "0/0/0", 8, -9223372036854775808, "[[] true]"},
		// The offset would be too great.
		{"3,6", "40/1/0", 0, 1, "[[40] true]"},
		{"3,6", "40/1/0", 1, 1, "[[] true]"},
		{"3,6", "40/1/0", 8, 0, "[[] true]"},
		{"3,6", "39/1/0", 1, 1, "[[40] true]"},
		{"3,6", "39/1/0", 2, 0, "[[38 39 40] true]"},
		{"3,6", "41/0/0", 0, 0, "[[] false]"},
		{"3,6", "0/11/0", 0, 11, "[[] false]"},
		{"3,7", "0/0/0", 0, 0, "[[] false]"},
	} {
		offsets, ok := impl.OffsetsAfter(limits(c.limits), course(c.course), c.rings, c.heading)
		expect(t, fmt.Sprintf("OffsetsAfter(%s, %s, %d, %d)", c.limits, c.course, c.rings, c.heading), results(offsets, ok), c.want)
	}
}

// roughness is the sum of the squares of the differences of each turn and the turn before.
func roughness(c impl.Course, turns []int64) int64 {
	sum, before := int64(0), c.Turn
	for _, turn := range turns {
		sum += (turn - before) * (turn - before)
		before = turn
	}
	return sum
}

// smoothestHome tries all plans, and tells how many are as smooth as the smoothest one, the first of which it returns.
func smoothestHome(l impl.Limits, c impl.Course, rings int64) (best []int64, least int64, equal int) {
	waysHome(l).plansHome(l, c, rings, func(turns []int64) {
		switch sum := roughness(c, turns); {
		case equal == 0 || sum < least:
			best, least, equal = turns, sum, 1
		case sum == least:
			equal++
		}
	})
	return best, least, equal
}

func TestSmoothestHomeTriesAllPlans(t *testing.T) {
	random := rand.New(rand.NewSource(59))
	counts := map[string]int{}
	for i := range 1800 {
		l := allLimits()[i%18]
		rings := int64(i % 9)
		c := impl.Course{Offset: random.Int63n(21) - 10, Heading: random.Int63n(11) - 5, Turn: random.Int63n(2*l.Most+1) - l.Most}
		if i%5 == 0 {
			c = anyCourse(random, l)
		}
		turns, sum, ok := impl.SmoothestHome(l, c, rings)
		best, least, equal := smoothestHome(l, c, rings)
		call := fmt.Sprintf("SmoothestHome(%v, %v, %d)", l, c, rings)
		expect(t, call, results(turns, sum, ok), results(best, least, equal > 0))
		if !ok {
			counts["none"]++
			continue
		}
		run, _ := impl.RunCourse(l, c, turns)
		if rings > 0 && (int64(len(run)) != rings || run[rings-1] != impl.Course{}) {
			t.Errorf("%s: %v does not lead home", call, turns)
		}
		counts["plans"]++
		if equal > 1 {
			counts["several"]++
		}
		if fewest, _ := impl.StepsHome(l, c); fewest < rings {
			counts["longer"]++
		}
	}
	if counts["none"] < 200 || counts["plans"] < 200 || counts["several"] < 20 || counts["longer"] < 100 {
		t.Errorf("the samples are %v", counts)
	}
}

func TestSmoothestHomeAtItsLimits(t *testing.T) {
	for _, c := range []struct {
		limits, course string
		rings          int64
		want           string
	}{
		// No ring at all.
		{"3,6", "0/0/0", 0, "[[] 0 true]"},
		{"3,6", "0/0/1", 0, "[[] 0 false]"},
		{"3,6", "1/0/0", 0, "[[] 0 false]"},
		{"3,6", "0/1/0", 0, "[[] 0 false]"},
		// The turn of the course is the one before the first.
		{"3,6", "0/0/3", 1, "[[0] 9 true]"},
		{"3,6", "0/0/-2", 1, "[[0] 4 true]"},
		{"3,2", "0/0/3", 1, "[[] 0 false]"},
		{"3,6", "1/0/0", 2, "[[] 0 false]"},
		{"3,6", "1/0/0", 3, "[[-1 1 0] 6 true]"},
		{"3,6", "1/0/1", 3, "[[-1 1 0] 9 true]"},
		// The plan 0, -1, 1, 0 is as smooth.
		{"3,6", "1/0/0", 4, "[[-1 1 0 0] 6 true]"},
		{"3,6", "-1/0/0", 4, "[[0 1 -1 0] 6 true]"},
		// The least plan with the fewest rings, -3, 2, 1, 0, is not the smoothest one.
		{"3,6", "4/0/0", 4, "[[-2 0 2 0] 16 true]"},
		// A course that is home may stay there.
		{"3,6", "0/0/0", 1, "[[0] 0 true]"},
		{"1,1", "0/0/0", 8, "[[0 0 0 0 0 0 0 0] 0 true]"},
		// MaxExact rings, and one more.
		{"1,1", "0/0/0", 9, "[[] 0 false]"},
		{"3,6", "1/0/0", 9, "[[] 0 false]"},
		{"3,6", "0/0/0", -1, "[[] 0 false]"},
		{"3,6", "0/0/0", 9223372036854775807, "[[] 0 false]"},
		{"3,6", "0/0/0", -9223372036854775808, "[[] 0 false]"},
		// The course cannot come home, or not with so few rings.
		{"3,6", "40/1/0", 8, "[[] 0 false]"},
		{"1,1", "29/-10/-1", 8, "[[] 0 false]"},
		{"3,6", "37/3/0", 8, "[[] 0 false]"},
		{"3,6", "41/0/0", 8, "[[] 0 false]"},
		{"0,6", "0/0/0", 0, "[[] 0 false]"},
		{"3,7", "0/0/0", 8, "[[] 0 false]"},
	} {
		turns, sum, ok := impl.SmoothestHome(limits(c.limits), course(c.course), c.rings)
		expect(t, fmt.Sprintf("SmoothestHome(%s, %s, %d)", c.limits, c.course, c.rings), results(turns, sum, ok), c.want)
	}
}

// TestSmoothestHomeHasTheFewestRings compares the functions with each other: a plan with exactly as many rings as StepsHome exists, and none with fewer.
func TestSmoothestHomeHasTheFewestRings(t *testing.T) {
	random := rand.New(rand.NewSource(60))
	compared := 0
	for i := range 540 {
		l := allLimits()[i%18]
		c := impl.Course{Offset: random.Int63n(11) - 5, Heading: random.Int63n(7) - 3, Turn: random.Int63n(2*l.Most+1) - l.Most}
		steps, ok := impl.StepsHome(l, c)
		if !ok || steps > 8 {
			continue
		}
		compared++
		call := fmt.Sprintf("%v with %v", c, l)
		home, _ := impl.PlanHome(l, c)
		_, sum, ok := impl.SmoothestHome(l, c, steps)
		if !ok || sum > roughness(c, home) {
			t.Errorf("SmoothestHome of %s is not as smooth as PlanHome", call)
		}
		for rings := range steps {
			if turns, _, ok := impl.SmoothestHome(l, c, rings); ok {
				t.Errorf("SmoothestHome of %s needs fewer rings than StepsHome: %v", call, turns)
			}
		}
		offsets, _ := impl.OffsetsAfter(l, c, steps, 0)
		if !slices.Contains(offsets, 0) {
			t.Errorf("OffsetsAfter of %s does not come home: %v", call, offsets)
		}
	}
	if compared < 200 {
		t.Errorf("only %d courses were compared", compared)
	}
}
