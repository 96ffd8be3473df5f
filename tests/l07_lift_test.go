package tests

import (
	"fmt"
	"math"
	"math/rand"
	"slices"
	"testing"

	"loop.example/g01099/impl"
)

// liftsOf lets each unit lift the points that are not farther than 1 from it.
func liftsOf(units []int64) []int64 {
	list := make([]int64, len(units))
	for i, n := range units {
		for j := range list {
			switch i - j {
			case 0:
				list[j] += 2 * n
			case 1, -1:
				list[j] += n
			}
		}
	}
	return list
}

// isEnough tells whether a plan lifts each point by its need.
func isEnough(needs, units []int64) bool {
	for i, lift := range liftsOf(units) {
		if lift < needs[i] {
			return false
		}
	}
	return true
}

// plansOf has all plans for some points, in ascending order.
func plansOf(points int) [][]int64 {
	list := smallLists([]int64{0, 1, 2, 3, 4, 5, 6}, points)
	return slices.DeleteFunc(list, func(units []int64) bool { return len(units) != points })
}

// firstOfAll returns, of the plans that are enough, the first one with the least sum.
func firstOfAll(needs []int64, plans [][]int64) ([]int64, int64) {
	var best []int64
	least := int64(math.MaxInt64)
	for _, units := range plans {
		if s := sum(units); s < least && isEnough(needs, units) {
			best, least = units, s
		}
	}
	return best, least
}

// leastUnits works from the end of the row: rest has how many units are needed from a point on, for all units of the two points in front of it.
func leastUnits(needs []int64) ([]int64, int64) {
	const never = 1000
	rest := make([][7][7]int64, len(needs)+1)
	// cost is what one more point costs with all that must follow.
	cost := func(point int, a, b, c int64) int64 {
		if point > 0 && a+2*b+c < needs[point-1] {
			return never
		}
		return c + rest[point+1][b][c]
	}
	for point := len(needs); point >= 0; point-- {
		for a := range int64(7) {
			for b := range int64(7) {
				least := int64(never)
				if point == len(needs) && a+2*b >= needs[point-1] {
					least = 0
				}
				for c := int64(0); c < 7 && point < len(needs); c++ {
					least = min(least, cost(point, a, b, c))
				}
				rest[point][a][b] = least
			}
		}
	}
	// The least units that cost no more than is needed, point by point.
	units := make([]int64, len(needs))
	a, b := int64(0), int64(0)
	for point := range units {
		c := int64(0)
		for cost(point, a, b, c) > rest[point][a][b] {
			c++
		}
		units[point], a, b = c, b, c
	}
	return units, rest[0][0][0]
}

// checkLeastUnits compares LeastUnits with the plan that is expected.
func checkLeastUnits(t *testing.T, needs, want []int64, least int64) {
	t.Helper()
	call := fmt.Sprintf("LeastUnits(%v)", needs)
	units, total, ok := impl.LeastUnits(needs)
	expect(t, call, results(units, total, ok), results(want, least, true))
	expect(t, "IsLifted by "+call, results(impl.IsLifted(needs, units)), "[true]")
	lifts, ok := impl.LiftsOf(units)
	expect(t, "LiftsOf "+call, results(lifts, ok), results(liftsOf(want), true))
}

// randomRow returns some numbers up to most, many of which are small.
func randomRow(random *rand.Rand, points int, most int64) []int64 {
	list := make([]int64, points)
	for i := range list {
		if random.Intn(3) > 0 {
			list[i] = random.Int63n(most + 1)
		}
	}
	return list
}

func TestLeastUnitsTriesAllPlans(t *testing.T) {
	all := []int64{0, 1, 2, 3, 4, 5, 6, 7, 8, 9, 10, 11, 12}
	for points, numbers := range [][]int64{1: all, 2: all, 3: all, 4: {0, 1, 3, 7, 12}, 5: {0, 4, 11}} {
		plans := plansOf(points)
		for _, needs := range smallLists(numbers, points) {
			if len(needs) == points && points > 0 {
				want, least := firstOfAll(needs, plans)
				checkLeastUnits(t, needs, want, least)
				units, also := leastUnits(needs)
				expect(t, fmt.Sprintf("the reference for %v", needs), results(units, also), results(want, least))
			}
		}
	}
}

func TestLeastUnitsOfLongRows(t *testing.T) {
	random := rand.New(rand.NewSource(76))
	for i := range 1500 {
		most := []int64{1, 4, 12}[random.Intn(3)]
		needs := randomRow(random, i%12+1, most)
		want, least := leastUnits(needs)
		checkLeastUnits(t, needs, want, least)
	}
	for points := 1; points <= 12; points++ {
		for need := range int64(13) {
			needs := repeated(need, points)
			want, least := leastUnits(needs)
			checkLeastUnits(t, needs, want, least)
		}
	}
}

func TestLeastUnitsAtItsLimits(t *testing.T) {
	for _, c := range []struct {
		needs, want string
		least       int64
	}{
		{"0,3,0", "0,1,1", 2},
		// One need, up to the greatest one.
		{"0", "0", 0},
		{"1", "1", 1},
		{"2", "1", 1},
		{"3", "2", 2},
		{"11", "6", 6},
		{"12", "6", 6},
		// Plans with equal sums, of which the least one has its units at the end.
		{"1,1", "0,1", 1},
		{"1,1,1", "0,1,0", 1},
		{"0,1,0", "0,0,1", 1},
		{"1,0,1", "0,1,0", 1},
		{"1,1,1,1", "0,1,0,1", 2},
		{"3,0", "1,1", 2},
		{"0,3", "0,2", 2},
		{"3,3", "1,1", 2},
		{"4,4", "1,2", 3},
		{"12,12", "4,4", 8},
		{"2,0,0", "1,0,0", 1},
		{"0,0,2", "0,0,1", 1},
		// All needs are 0.
		{"0,0", "0,0", 0},
		{"0,0,0,0,0,0,0,0,0,0,0,0", "0,0,0,0,0,0,0,0,0,0,0,0", 0},
		// The greatest needs everywhere, and at both ends.
		{"12,12,12", "3,6,3", 12},
		{"12,0,0,0,0,0,0,0,0,0,0,12", "6,0,0,0,0,0,0,0,0,0,0,6", 12},
	} {
		checkLeastUnits(t, numbers(c.needs), numbers(c.want), c.least)
	}
}

func TestLiftsOf(t *testing.T) {
	for _, c := range []struct{ units, want string }{
		{"0,1,1", "[[1 3 3] true]"},
		// What would lift points beyond the row is not there.
		{"1", "[[2] true]"},
		{"6", "[[12] true]"},
		{"0", "[[0] true]"},
		{"1,0,0", "[[2 1 0] true]"},
		{"0,1,0", "[[1 2 1] true]"},
		{"0,0,1", "[[0 1 2] true]"},
		{"1,2", "[[4 5] true]"},
		{"6,6,6", "[[18 24 18] true]"},
		{"0,0,0,0,0,0,0,0,0,0,0,5", "[[0 0 0 0 0 0 0 0 0 0 5 10] true]"},
	} {
		lifts, ok := impl.LiftsOf(numbers(c.units))
		expect(t, "LiftsOf("+c.units+")", results(lifts, ok), c.want)
	}
	random := rand.New(rand.NewSource(77))
	for i := range 1000 {
		units := randomRow(random, i%12+1, 6)
		lifts, ok := impl.LiftsOf(units)
		expect(t, fmt.Sprintf("LiftsOf(%v)", units), results(lifts, ok), results(liftsOf(units), true))
	}
}

func TestIsLifted(t *testing.T) {
	for _, c := range []struct {
		needs, units string
		want         bool
	}{
		{"0,3,0", "0,1,1", true},
		{"0,3,0", "0,0,1", false},
		// Exactly enough, and one less.
		{"2", "1", true},
		{"3", "1", false},
		{"12", "6", true},
		{"12", "5", false},
		{"1,2,1", "0,1,0", true},
		{"2,2,1", "0,1,0", false},
		{"1,3,1", "0,1,0", false},
		{"1,2,2", "0,1,0", false},
		{"0,0,0", "0,0,0", true},
		{"0", "6", true},
		// Different lengths, of which either may be the longer one.
		{"0,0", "0", false},
		{"0", "0,0", false},
		{"0", "", false},
		{"", "0", false},
		{"", "", false},
		{"0,0,0", "6,6", false},
		// Numbers that are no needs or no units.
		{"13", "6", false},
		{"-1", "6", false},
		{"0,0,13", "6,6,6", false},
		{"0,-1,0", "6,6,6", false},
		{"0", "7", false},
		{"0", "-1", false},
		{"0,0,0", "6,6,7", false},
		{"0,0,0", "6,-1,6", false},
		{"0,0,0", "-1,6,6", false},
	} {
		expect(t, fmt.Sprintf("IsLifted(%s, %s)", c.needs, c.units), results(impl.IsLifted(plan(c.needs), plan(c.units))), results(c.want))
	}
	for _, points := range []int{1, 11, 12, 13, 100000} {
		got := impl.IsLifted(repeated(12, points), repeated(6, points))
		expect(t, fmt.Sprintf("IsLifted of %d points", points), results(got), results(points <= 12))
	}
	random := rand.New(rand.NewSource(78))
	counts := map[bool]int{}
	for range 5000 {
		needs, units := randomRow(random, random.Intn(4)+1, 8), randomRow(random, random.Intn(4)+1, 6)
		want := len(needs) == len(units) && isEnough(needs, units)
		counts[want]++
		expect(t, fmt.Sprintf("IsLifted(%v, %v)", needs, units), results(impl.IsLifted(needs, units)), results(want))
	}
	if counts[true] < 300 {
		t.Errorf("only %d plans are enough", counts[true])
	}
}

func TestFunctionsRefuseRowsThatAreNotValid(t *testing.T) {
	for _, list := range [][]int64{nil, {}, repeated(0, 13), repeated(1, 14), repeated(0, 100000), {-1}, {0, -1}, {-1, 0}, {math.MaxInt64}, {math.MinInt64}, {5, math.MinInt64, 5}} {
		lifts, one := impl.LiftsOf(list)
		units, total, two := impl.LeastUnits(list)
		got := results(lifts, one, units, total, two, impl.IsLifted(list, list))
		expect(t, fmt.Sprintf("the row %.60s", fmt.Sprint(list)), got, "[[] false [] 0 false false]")
	}
	for _, list := range [][]int64{{7}, {6, 7}, {7, 6}, append(repeated(6, 11), 7)} {
		lifts, ok := impl.LiftsOf(list)
		expect(t, fmt.Sprintf("LiftsOf(%v)", list), results(lifts, ok), "[[] false]")
	}
	for _, list := range [][]int64{{13}, {12, 13}, {13, 12}, append(repeated(12, 11), 13)} {
		units, total, ok := impl.LeastUnits(list)
		expect(t, fmt.Sprintf("LeastUnits(%v)", list), results(units, total, ok), "[[] 0 false]")
	}
	lifts, one := impl.LiftsOf(repeated(6, 12))
	units, total, two := impl.LeastUnits(repeated(12, 12))
	expect(t, "the longest rows", results(len(lifts), one, len(units), total > 0, two), "[12 true 12 true true]")
}

// liftNeeds counts units until no settlement is left.
func liftNeeds(settled []int64, allowed, unit, from int64) string {
	var needs []int64
	for _, settlement := range settled[from : from+12] {
		need := int64(0)
		for settlement > allowed+need*unit {
			need++
			if need > 12 {
				return "[[] false]"
			}
		}
		needs = append(needs, need)
	}
	return results(needs, true)
}

func TestLiftNeeds(t *testing.T) {
	random := rand.New(rand.NewSource(79))
	counts := map[string]int{}
	for _, settled := range sampleSurfaces() {
		for range 8 {
			from := random.Int63n(13)
			allowed := []int64{0, random.Int63n(mostSettled + 1), settled[random.Intn(24)]}[random.Intn(3)]
			beyond := max(slices.Max(settled)-allowed, 0)
			unit := min(max(beyond/12+random.Int63n(3), 1), mostSettled)
			want := liftNeeds(settled, allowed, unit, from)
			counts[want[len(want)-6:]]++
			needs, ok := impl.LiftNeeds(settled, allowed, unit, from)
			expect(t, fmt.Sprintf("LiftNeeds(%v, %d, %d, %d)", settled, allowed, unit, from), results(needs, ok), want)
			if !ok {
				continue
			}
			// A plan for these needs leaves no more than what is allowed.
			units, _, _ := impl.LeastUnits(needs)
			for i, lift := range liftsOf(units) {
				if left := settled[int(from)+i] - lift*unit; left > allowed {
					t.Errorf("LiftNeeds(%v, %d, %d, %d): %d are left at %d", settled, allowed, unit, from, left, i)
				}
			}
		}
	}
	if counts["false]"] < 300 || len(counts) != 2 {
		t.Errorf("needs that are possible and not: %v", counts)
	}
}

func TestLiftNeedsAtTheirLimits(t *testing.T) {
	for _, c := range []struct {
		settled             map[int]int64
		allowed, unit, from int64
		want                string
	}{
		{map[int]int64{0: 2, 1: 5, 2: 7}, 1, 3, 0, "[[1 2 2 0 0 0 0 0 0 0 0 0] true]"},
		// Rounded up, and exactly.
		{map[int]int64{0: 3, 1: 4, 2: 5, 3: 6, 4: 7}, 0, 3, 0, "[[1 2 2 2 3 0 0 0 0 0 0 0] true]"},
		{map[int]int64{0: 3, 1: 4, 2: 5, 3: 6, 4: 7}, 4, 1, 0, "[[0 0 1 2 3 0 0 0 0 0 0 0] true]"},
		{map[int]int64{0: 1}, 0, mostSettled, 0, "[[1 0 0 0 0 0 0 0 0 0 0 0] true]"},
		{map[int]int64{0: mostSettled}, 0, mostSettled, 0, "[[1 0 0 0 0 0 0 0 0 0 0 0] true]"},
		{map[int]int64{0: mostSettled}, mostSettled, 1, 0, "[[0 0 0 0 0 0 0 0 0 0 0 0] true]"},
		{map[int]int64{0: mostSettled}, mostSettled - 1, 1, 0, "[[1 0 0 0 0 0 0 0 0 0 0 0] true]"},
		// A need that is MaxNeed, and one more.
		{map[int]int64{0: 36}, 0, 3, 0, "[[12 0 0 0 0 0 0 0 0 0 0 0] true]"},
		{map[int]int64{0: 37}, 0, 3, 0, "[[] false]"},
		{map[int]int64{0: 37}, 1, 3, 0, "[[12 0 0 0 0 0 0 0 0 0 0 0] true]"},
		{map[int]int64{11: 12}, 0, 1, 0, "[[0 0 0 0 0 0 0 0 0 0 0 12] true]"},
		{map[int]int64{11: 13}, 0, 1, 0, "[[] false]"},
		{map[int]int64{0: mostSettled}, 0, 166667, 0, "[[12 0 0 0 0 0 0 0 0 0 0 0] true]"},
		{map[int]int64{0: mostSettled}, 0, 166666, 0, "[[] false]"},
		// The first and the last row, in front of which and behind which the surface does not matter.
		{map[int]int64{12: mostSettled, 11: 2}, 0, 1, 0, "[[0 0 0 0 0 0 0 0 0 0 0 2] true]"},
		{map[int]int64{11: mostSettled, 12: 2, 23: 3}, 0, 1, 12, "[[2 0 0 0 0 0 0 0 0 0 0 3] true]"},
		{map[int]int64{4: mostSettled, 5: 2, 16: 3, 17: mostSettled}, 0, 1, 5, "[[2 0 0 0 0 0 0 0 0 0 0 3] true]"},
		{nil, 0, 1, 13, "[[] false]"},
		{nil, 0, 1, -1, "[[] false]"},
		{nil, 0, 1, math.MaxInt64, "[[] false]"},
		{nil, 0, 1, math.MinInt64, "[[] false]"},
		{nil, mostSettled, mostSettled, 12, "[[0 0 0 0 0 0 0 0 0 0 0 0] true]"},
		{nil, mostSettled + 1, 1, 0, "[[] false]"},
		{nil, -1, 1, 0, "[[] false]"},
		{nil, math.MaxInt64, 1, 0, "[[] false]"},
		{nil, math.MinInt64, 1, 0, "[[] false]"},
		{nil, 0, mostSettled + 1, 0, "[[] false]"},
		{nil, 0, 0, 0, "[[] false]"},
		{nil, 0, -1, 0, "[[] false]"},
		{nil, 0, math.MaxInt64, 0, "[[] false]"},
		{nil, 0, math.MinInt64, 0, "[[] false]"},
	} {
		needs, ok := impl.LiftNeeds(surface(c.settled), c.allowed, c.unit, c.from)
		expect(t, fmt.Sprintf("LiftNeeds(%v, %d, %d, %d)", c.settled, c.allowed, c.unit, c.from), results(needs, ok), c.want)
	}
}
