package tests

import (
	"fmt"
	"math"
	"math/rand"
	"slices"
	"sync"
	"testing"

	"loop.example/g01099/impl"
)

// isSufficient tells whether no cutter fails.
func isSufficient(h impl.Head, list []impl.Stop) bool {
	_, _, ring := driven(h, list)
	return ring < 0
}

// planFor drives from stop to stop, and looks at each of them whether a cutter gets to the next one without a change.
func planFor(h impl.Head, rings []int64) ([]impl.Stop, bool) {
	wear := make([]int64, len(h.Cutters))
	drive := func(from, until int64) {
		for _, hardness := range h.Hardness[from:until] {
			for i, c := range h.Cutters {
				wear[i] += c.Track * hardness
			}
		}
	}
	ends := append(slices.Clone(rings), int64(len(h.Hardness)))
	drive(0, ends[0])
	var list []impl.Stop
	for i, ring := range rings {
		here := slices.Clone(wear)
		drive(ring, ends[i+1])
		s := impl.Stop{Ring: ring}
		for cutter, c := range h.Cutters {
			if wear[cutter] > c.Limit {
				s.Changed = append(s.Changed, int64(cutter))
				wear[cutter] -= here[cutter]
			}
		}
		if len(s.Changed) > 0 {
			list = append(list, s)
		}
	}
	return list, isSufficient(h, list)
}

// ringsOf returns the rings of the stops of a plan.
func ringsOf(list []impl.Stop) []int64 {
	var rings []int64
	for _, s := range list {
		rings = append(rings, s.Ring)
	}
	return rings
}

// cheapest is the best one of the plans for all sets of stops, and equal is how many other lists of rings have its cost.
func cheapest(h impl.Head) (best []impl.Stop, least int64, equal int) {
	least = -1
	others := map[string]bool{}
	for number := range int64(1) << len(h.Safe) {
		list, ok := planFor(h, someOf(number, h.Safe))
		if !ok {
			continue
		}
		cost := costOf(h, list)
		if cost < least || least < 0 {
			clear(others)
		}
		if cost <= least || least < 0 {
			others[planText(list)] = true
		}
		if least < 0 || cost < least || cost == least && slices.Compare(ringsOf(list), ringsOf(best)) < 0 {
			best, least = list, cost
		}
	}
	return best, least, len(others) - 1
}

// allPlans returns all plans of a valid head.
func allPlans(h impl.Head) [][]impl.Stop {
	plans := [][]impl.Stop{nil}
	for _, ring := range h.Safe {
		for _, before := range slices.Clone(plans) {
			for number := int64(1); number < 1<<len(h.Cutters); number++ {
				s := impl.Stop{Ring: ring, Changed: someOf(number, upTo(len(h.Cutters)))}
				plans = append(plans, append(slices.Clone(before), s))
			}
		}
	}
	return plans
}

// changesIn counts how often a cutter is changed.
func changesIn(list []impl.Stop, cutter int64) int64 {
	count := int64(0)
	for _, s := range list {
		if slices.Contains(s.Changed, cutter) {
			count++
		}
	}
	return count
}

// checkPlanFor compares the plans for all sets of stops with what is expected.
func checkPlanFor(t *testing.T, h impl.Head) {
	t.Helper()
	for number := range int64(1) << len(h.Safe) {
		rings := someOf(number, h.Safe)
		want := results([]impl.Stop{}, false)
		list, ok := planFor(h, rings)
		if ok {
			want = results(list, true)
		}
		got, ok := impl.PlanFor(h, rings)
		call := fmt.Sprintf("PlanFor(%s, %v)", headText(h), rings)
		expect(t, call, results(got, ok), want)
		if ok {
			again, ok := impl.PlanFor(h, ringsOf(got))
			expect(t, call+" for the stops that are left", results(again, ok, impl.IsEnough(h, got)), results(got, true, true))
		}
	}
}

// needsOf takes one interval after the other.
func needsOf(h impl.Head, cutter int64) ([][]int64, bool) {
	var needs [][]int64
	rings := int64(len(h.Hardness))
	for from := int64(0); from < rings; {
		until := from + rangeOf(h, cutter, from)
		if until == rings {
			break
		}
		greatest := from
		for _, ring := range h.Safe {
			if ring > from && ring <= until {
				greatest = ring
			}
		}
		if greatest == from {
			return nil, false
		}
		needs = append(needs, []int64{from, until})
		from = greatest
	}
	return needs, true
}

// checkProofs compares the intervals and the bound of a head with what is expected, and with its cheapest plan.
func checkProofs(t *testing.T, h impl.Head) {
	t.Helper()
	name := headText(h)
	bound, most, isPossible := int64(0), int64(0), true
	for cutter := range int64(len(h.Cutters)) {
		want, ok := needsOf(h, cutter)
		needs, got := impl.NeedsOf(h, cutter)
		expect(t, fmt.Sprintf("NeedsOf(%s, %d)", name, cutter), results(needs, got), results(want, ok))
		for i, interval := range needs {
			shared := slices.ContainsFunc(h.Safe, func(ring int64) bool {
				return i > 0 && ring > interval[0] && ring <= needs[i-1][1]
			})
			if interval[0] >= interval[1] || shared {
				t.Errorf("the intervals %v of the cutter %d of %s are not disjoint", needs, cutter, name)
			}
		}
		count := int64(len(needs))
		bound += count * h.ChangeCost
		most, isPossible = max(most, count), isPossible && got
	}
	want := results(bound+most*h.StopCost, true)
	if !isPossible {
		want = results(0, false)
	}
	low, ok := impl.BoundOf(h)
	expect(t, "BoundOf("+name+")", results(low, ok), want)
	list, cost, is := impl.CheapestPlan(h)
	if is != ok || low > cost || len(h.Cutters) == 1 && low != cost {
		t.Errorf("%s: the bound is %d %t, and the plan %s costs %d %t", name, low, ok, planText(list), cost, is)
	}
}

// checkCheapest compares the cheapest plan with those for all sets of stops, and returns whether there is one, and whether others cost as much.
func checkCheapest(t *testing.T, h impl.Head) (bool, bool) {
	t.Helper()
	best, least, equal := cheapest(h)
	want := results([]impl.Stop{}, 0, false)
	if least >= 0 {
		want = results(best, least, true)
	}
	got, cost, ok := impl.CheapestPlan(h)
	expect(t, "CheapestPlan("+headText(h)+")", results(got, cost, ok), want)
	if ok {
		price, one := impl.CostOf(h, got)
		expect(t, "the plan "+planText(got)+" of "+headText(h), results(price, one, impl.IsEnough(h, got)), results(cost, true, true))
	}
	return ok, equal > 0
}

// checkAllPlans tries all plans of a small head one by one.
func checkAllPlans(t *testing.T, h impl.Head) {
	t.Helper()
	least := int64(-1)
	fewest := slices.Repeat([]int64{math.MaxInt64}, len(h.Cutters))
	stopsOfAll := map[string]bool{}
	for _, list := range allPlans(h) {
		if !isSufficient(h, list) {
			continue
		}
		if cost := costOf(h, list); least < 0 || cost < least {
			least = cost
		}
		for cutter := range fewest {
			fewest[cutter] = min(fewest[cutter], changesIn(list, int64(cutter)))
		}
		stopsOfAll[commas(ringsOf(list))] = true
	}
	_, cost, ok := impl.CheapestPlan(h)
	expect(t, "the least cost for "+headText(h), results(cost, ok), results(max(least, 0), least >= 0))
	for cutter, count := range fewest {
		if needs, ok := impl.NeedsOf(h, int64(cutter)); least >= 0 && (!ok || int64(len(needs)) != count) {
			t.Errorf("%s: the cutter %d is changed %d times at least, and its intervals are %v", headText(h), cutter, count, needs)
		}
	}
	for number := range int64(1) << len(h.Safe) {
		rings := someOf(number, h.Safe)
		if _, ok := impl.PlanFor(h, rings); !ok && stopsOfAll[commas(rings)] {
			t.Errorf("PlanFor(%s, %v) fails, and there is a sufficient plan with these stops", headText(h), rings)
		}
	}
}

func TestPlansOfHeads(t *testing.T) {
	counts := map[string]int{}
	for _, h := range sampleHeads() {
		checkPlanFor(t, h)
		checkProofs(t, h)
		isPossible, isTied := checkCheapest(t, h)
		counts[fmt.Sprint(isPossible, isTied)]++
	}
	if counts["true false"] < 50 || counts["true true"] < 10 || counts["false false"] < 50 {
		t.Errorf("heads with a plan, with several cheapest ones, and with none: %v", counts)
	}
}

// TestAllPlansOfSmallHeads tries heads with few cutters and Safe rings, of which many have sufficient plans.
func TestAllPlansOfSmallHeads(t *testing.T) {
	random := rand.New(rand.NewSource(84))
	possible, tied := 0, 0
	for i := range 1500 {
		cutters := i%3 + 1
		h := randomHead(random, cutters, random.Intn(12), random.Intn([]int{7, 5, 4}[cutters-1]))
		checkPlanFor(t, h)
		checkProofs(t, h)
		checkAllPlans(t, h)
		isPossible, isTied := checkCheapest(t, h)
		if isPossible && len(h.Safe) > 0 {
			possible++
		}
		if isTied {
			tied++
		}
	}
	if possible < 300 || tied < 50 {
		t.Errorf("%d heads have a plan, and %d several cheapest ones", possible, tied)
	}
	// All cutters there can be, with fewer Safe rings.
	for range 40 {
		h := randomHead(random, 5, 8, 2)
		checkAllPlans(t, h)
		checkCheapest(t, h)
	}
}

// TestAllHeadsOfOneCutter tries the Limit and the Safe rings of one cutter in rings of equal hardness.
func TestAllHeadsOfOneCutter(t *testing.T) {
	for limit := int64(1); limit <= 7; limit++ {
		for number := range int64(1) << 6 {
			h := impl.Head{Cutters: []impl.Cutter{{Track: 1, Limit: limit}}, Hardness: repeated(1, 6), Safe: someOf(number, upTo(6)), StopCost: 2, ChangeCost: 3}
			checkPlanFor(t, h)
			checkProofs(t, h)
			checkAllPlans(t, h)
			checkCheapest(t, h)
		}
	}
}

func TestPlanForAtItsLimits(t *testing.T) {
	two, none := "2/20,1/20|5,5,5,5|1,2|10,3", "none"
	six := "1/3,1/4|1,1,1,1,1,1|0,1,2,3,4,5|1,1"
	for _, c := range []struct{ head, stops, want string }{
		{two, "1,2", "2:0"},
		{two, "2", "2:0"},
		{two, "1", none},
		{two, "", none},
		// No sets of Safe rings.
		{two, "3", none},
		{two, "0", none},
		{two, "2,1", none},
		{two, "2,2", none},
		{two, "1,1,2", none},
		{two, "1,2,3", none},
		{two, "0,2", none},
		{two, "-1,2", none},
		{two, "2,4", none},
		{two, "2,66", none},
		{two, "2,9223372036854775807", none},
		{two, "-9223372036854775808,2", none},
		{two, "4294967298", none},
		// Each cutter is changed at the latest stop that is early enough; others are left out.
		{six, "3", "3:0,1"},
		{six, "3,4", "3:0;4:1"},
		{six, "2,3,4", "3:0;4:1"},
		{six, "2,4", "2:0;4:0,1"},
		{six, "1,2,4", "2:0;4:0,1"},
		{six, "0,1,2,3,4,5", "3:0;4:1"},
		{six, "2,3", "3:0,1"},
		{six, "2", none},
		{six, "4", none},
		{six, "4,5", none},
		{six, "2,5", "2:0,1;5:0"},
		{six, "1,2,5", "2:0,1;5:0"},
		{six, "1,4", "1:0;4:0,1"},
		{six, "0,3", "3:0,1"},
		// In the ring 0, nothing is changed.
		{six, "0", none},
		{"1/3|1,1,1|0,1|1,1", "0", ""},
		{"1/3|1,1,1|0,1|1,1", "0,1", ""},
		{"1/3|1,1,1,1|0|1,1", "0", none},
		{"1/3|4|0|1,1", "0", none},
		// No stop, and all Safe rings.
		{"1/3|1,1,1|0,1|1,1", "", ""},
		{"1/3|1,1,1,1|0,1|1,1", "", none},
		{"1/3|1,1,1,1|1,2,3|1,1", "1,2,3", "3:0"},
		{"1/1|" + row(9, "1") + "|1,2,3,4,5,6,7,8|1,1", "1,2,3,4,5,6,7,8", "1:0;2:0;3:0;4:0;5:0;6:0;7:0;8:0"},
		{"1/1|" + row(9, "1") + "|1,2,3,4,5,6,7,8|1,1", "1,2,3,4,5,6,7", none},
		{"1/1|" + row(9, "1") + "|1,2,3,4,5,6,7,8|1,1", "2,3,4,5,6,7,8", none},
		// Changes just in time, and a ring too late.
		{"1/2|1,1,1|2|1,1", "2", "2:0"},
		{"1/2|1,1,1,1|2|1,1", "2", "2:0"},
		{"1/2|1,1,1,1,1|2|1,1", "2", none},
		{"1/2|1,1,1,1|3|1,1", "3", none},
		{"1/2|1,1,0,1|3|1,1", "3", "3:0"},
		{"1/2|1,1,0,1|2,3|1,1", "2,3", "3:0"},
		{"1/2|1,1,0,1|2|1,1", "2", "2:0"},
		// A cutter that is worn by a ring alone, behind the last change.
		{"1/2|1,1,3|1,2|1,1", "1,2", none},
		{"1/2|" + row(60, "0") + "|59|1,1", "59", ""},
		{"1/2|" + row(59, "0") + ",2|59|1,1", "59", ""},
		{"1/2|1," + row(58, "0") + ",2|59|1,1", "59", "59:0"},
		{"1/1|||0,0", "", ""},
		{"1/1|||0,0", "0", none},
	} {
		want := results([]impl.Stop{}, false)
		if c.want != none {
			want = results(stops(c.want), true)
		}
		list, ok := impl.PlanFor(head(c.head), plan(c.stops))
		expect(t, fmt.Sprintf("PlanFor(%s, %s)", c.head, c.stops), results(list, ok), want)
	}
}

func TestCheapestPlanAtItsLimits(t *testing.T) {
	const none = "none"
	for _, c := range []struct {
		head, want string
		cost       int64
	}{
		{"2/20,1/20|5,5,5,5|1,2|10,3", "2:0", 13},
		{"1/10,1/10|5,5,5,5,5,5|2,3,4|7,2", "2:0,1;4:0,1", 22},
		// Nothing needs a change.
		{"1/1|||10000,10000", "", 0},
		{"1/6|1,1,1,1,1,1|1,2,3|1,1", "", 0},
		{"1/6|1,1,1,1,1,1|1,2,3|0,0", "", 0},
		{"1/1|" + row(60, "0") + "|1,2,3,4,5,6,7,8|0,0", "", 0},
		{"100/1000000|" + row(60, "100") + "|1|0,0", "", 0},
		// Heads without a sufficient plan.
		{"2/9|5,5||1,1", none, 0},
		{"2/9|5,5|0,1|1,1", none, 0},
		{"1/6|1,1,1,1,1,1,1||0,0", none, 0},
		{"1/6|1,1,1,1,1,1,1|0|0,0", none, 0},
		{"1/2|1,1,1,1,1|1,4|0,0", none, 0},
		{"1/9,1/1|1,1,1|1|0,0", none, 0},
		{"100/1|" + row(60, "100") + "|1,2,3,4,5,6,7,8|0,0", none, 0},
		// Stops are shared if they cost much, and changes are spared if those do.
		{"1/3,1/4|1,1,1,1,1,1|3,4|1,1", "3:0,1", 3},
		{"1/2,1/3|1,1,1,1,1,1|2,3,4|5,1", "2:0,1;4:0,1", 14},
		{"1/2,1/3|1,1,1,1,1,1|2,3,4|1,5", "2:0;3:1;4:0", 18},
		{"1/2,1/3|1,1,1,1,1,1|2,3,4|10000,9999", "2:0,1;4:0,1", 59996},
		{"1/2,1/3|1,1,1,1,1,1|2,3,4|9999,10000", "2:0;3:1;4:0", 59997},
		// Equal costs, where one list of rings begins another.
		{"1/3,1/4|1,1,1,1,1,1|3,4|0,1", "3:0,1", 2},
		{"1/3,1/4|1,1,1,1,1,1|3,4|0,10000", "3:0,1", 20000},
		// The lesser list of rings may be the longer one.
		{"1/2,1/3|1,1,1,1,1,1|2,3,4|10000,10000", "2:0;3:1;4:0", 60000},
		// The costs are 0, so that only the list of rings counts: it may have more stops.
		{"1/3,1/2|1,1,1,1|1,2,3|0,0", "1:1;3:0,1", 0},
		{"1/3,1/4|1,1,1,1,1,1|1,2,3,4,5|0,0", "1:0;4:0,1", 0},
		{"1/2|1,1,1,1|1,2,3|0,0", "1:0;3:0", 0},
		{"1/2|1,1,1,1|1,2,3|1,0", "2:0", 1},
		{"1/2|1,1,1,1|1,2,3|0,1", "2:0", 1},
		{"1/3|1,1,1,1|0,1,2,3|10000,10000", "1:0", 20000},
		{"1/3|1,1,1,1|1,2,3|0,0", "1:0", 0},
		{"1/3|1,1,1,1|2,3|0,0", "2:0", 0},
		// All Safe rings are needed.
		{"1/1|" + row(9, "1") + "|1,2,3,4,5,6,7,8|3,4", "1:0;2:0;3:0;4:0;5:0;6:0;7:0;8:0", 56},
		{"100/10000,100/10000,100/10000,100/10000,100/10000|" + row(9, "100") + "|1,2,3,4,5,6,7,8|10000,10000", "1:0,1,2,3,4;2:0,1,2,3,4;3:0,1,2,3,4;4:0,1,2,3,4;5:0,1,2,3,4;6:0,1,2,3,4;7:0,1,2,3,4;8:0,1,2,3,4", 480000},
		{"100/9999|" + row(9, "100") + "|1,2,3,4,5,6,7,8|0,0", none, 0},
	} {
		want := results([]impl.Stop{}, 0, false)
		if c.want != none {
			want = results(stops(c.want), c.cost, true)
		}
		list, cost, ok := impl.CheapestPlan(head(c.head))
		expect(t, "CheapestPlan("+c.head+")", results(list, cost, ok), want)
		best, least, _ := cheapest(head(c.head))
		expect(t, "the reference for "+c.head, results(best, max(least, 0), least >= 0), want)
	}
}

func TestNeedsOfAtItsLimits(t *testing.T) {
	two := "2/20,1/20|5,5,5,5|1,2|10,3"
	for _, c := range []struct {
		head   string
		cutter int64
		want   string
	}{
		{two, 0, "[[[0 2]] true]"},
		{two, 1, "[[] true]"},
		{two, 2, "[[] false]"},
		{two, -1, "[[] false]"},
		{two, math.MaxInt64, "[[] false]"},
		{two, math.MinInt64, "[[] false]"},
		{two, 4294967296, "[[] false]"},
		// Each interval begins with the greatest Safe ring of the one before.
		{"1/10,1/10|5,5,5,5,5,5|2,3,4|7,2", 0, "[[[0 2] [2 4]] true]"},
		{"1/3|1,1,1,1,1,1,1,1|1,2,5|0,0", 0, "[[[0 3] [2 5]] true]"},
		{"1/3|1,1,1,1,1,1,1,1|1,3,4,6|0,0", 0, "[[[0 3] [3 6]] true]"},
		{"1/3|1,1,1,1,1,1,1,1|0,1,2,4,5|0,0", 0, "[[[0 3] [2 5]] true]"},
		{"1/3|1,1,1,1,1,1,1,1|2,4,6|0,0", 0, "[[[0 3] [2 5] [4 7]] true]"},
		// Exactly one Safe ring in an interval, at its end or just behind its beginning, and none.
		{"1/2|1,1,1|2|0,0", 0, "[[[0 2]] true]"},
		{"1/2|1,1,1|1|0,0", 0, "[[[0 2]] true]"},
		{"1/2|1,1,1|0|0,0", 0, "[[] false]"},
		{"1/2|1,1,1||0,0", 0, "[[] false]"},
		{"1/2|1,1,1,1|3|0,0", 0, "[[] false]"},
		{"1/2|1,1,1,1|0,3|0,0", 0, "[[] false]"},
		{"1/2|1,1,1,1|1|0,0", 0, "[[] false]"},
		{"1/2|1,1,1,1,1|2|0,0", 0, "[[] false]"},
		{"1/2|1,1,1,1,1|2,4|0,0", 0, "[[[0 2] [2 4]] true]"},
		{"1/2|1,1,1,1,1|1,3|0,0", 0, "[[[0 2] [1 3]] true]"},
		// A ring that alone is too much, at the beginning, behind it, and at the end.
		{"1/2|3||0,0", 0, "[[] false]"},
		{"1/2|3|0|0,0", 0, "[[] false]"},
		{"1/2|1,3|0,1|0,0", 0, "[[] false]"},
		{"1/2|1,3,1|1,2|0,0", 0, "[[] false]"},
		{"1/2|0,0,3|1,2|0,0", 0, "[[] false]"},
		{"1/2|1,2,1|1,2|0,0", 0, "[[[0 1] [1 2]] true]"},
		{"100/9999|100|0|0,0", 0, "[[] false]"},
		{"100/10000|100,100|0,1|0,0", 0, "[[[0 1]] true]"},
		// Rings with the hardness 0 in an interval.
		{"1/2|1,1,0,0,1,1|2|0,0", 0, "[[[0 4]] true]"},
		{"1/2|1,1,0,0,1,1|4|0,0", 0, "[[[0 4]] true]"},
		{"1/2|1,1,0,0,1,1|2,4|0,0", 0, "[[[0 4]] true]"},
		{"1/2|0,0,0,0|1,2|0,0", 0, "[[] true]"},
		{"1/2|||0,0", 0, "[[] true]"},
		{"1/1|||0,0", 1, "[[] false]"},
		{"1/1|" + row(9, "1") + "|1,2,3,4,5,6,7,8|1,1", 0, "[[[0 1] [1 2] [2 3] [3 4] [4 5] [5 6] [6 7] [7 8]] true]"},
		{"1/59|" + row(60, "1") + "|59|1,1", 0, "[[[0 59]] true]"},
		{"1/58|" + row(60, "1") + "|59|1,1", 0, "[[] false]"},
	} {
		needs, ok := impl.NeedsOf(head(c.head), c.cutter)
		expect(t, fmt.Sprintf("NeedsOf(%s, %d)", c.head, c.cutter), results(needs, ok), c.want)
	}
}

func TestBoundOfAtItsLimits(t *testing.T) {
	for _, c := range []struct{ head, bound, cost string }{
		{"2/20,1/20|5,5,5,5|1,2|10,3", "[13 true]", "[13 true]"},
		{"1/10,1/10|5,5,5,5,5,5|2,3,4|7,2", "[22 true]", "[22 true]"},
		{"2/9|5,5||1,1", "[0 false]", "[0 false]"},
		// One cutter alone makes it fail.
		{"1/99,2/9|5,5|1|1,1", "[0 false]", "[0 false]"},
		{"2/9,1/99|5,5|1|1,1", "[0 false]", "[0 false]"},
		{"1/1|||10000,10000", "[0 true]", "[0 true]"},
		{"1/6|1,1,1,1,1,1|1|5,3", "[0 true]", "[0 true]"},
		// The cutters cannot share all stops, or not without more changes, so that the bound is less than the cost.
		{"1/2,1/3|1,1,1,1,1,1|2,3,4|5,1", "[13 true]", "[14 true]"},
		{"1/2,1/3|1,1,1,1,1,1|2,3,4|1,5", "[17 true]", "[18 true]"},
		{"1/2,1/3|1,1,1,1,1,1|2,3,4|0,5", "[15 true]", "[15 true]"},
		{"1/2,1/3|1,1,1,1,1,1|2,3,4|5,0", "[10 true]", "[10 true]"},
		{"1/2,1/3|1,1,1,1,1,1|2,3,4|0,0", "[0 true]", "[0 true]"},
		{"100/10000,100/10000,100/10000,100/10000,100/10000|" + row(9, "100") + "|1,2,3,4,5,6,7,8|10000,10000", "[480000 true]", "[480000 true]"},
	} {
		bound, one := impl.BoundOf(head(c.head))
		expect(t, "BoundOf("+c.head+")", results(bound, one), c.bound)
		_, cost, two := impl.CheapestPlan(head(c.head))
		expect(t, "the cost of CheapestPlan("+c.head+")", results(cost, two), c.cost)
	}
}

func TestFunctionsRefuseHeadsThatAreNotValid(t *testing.T) {
	for _, h := range badHeads() {
		list, one := impl.PlanFor(h, nil)
		some, two := impl.PlanFor(h, h.Safe)
		best, cost, three := impl.CheapestPlan(h)
		needs, four := impl.NeedsOf(h, 0)
		bound, five := impl.BoundOf(h)
		got := results(list, one, some, two, best, cost, three, needs, four, bound, five)
		expect(t, "the head "+headText(h), got, "[[] false [] false [] 0 false [] false 0 false]")
	}
}

// TestCheapestPlanAtTheSameTime calls CheapestPlan from several goroutines, each with the same head.
func TestCheapestPlanAtTheSameTime(t *testing.T) {
	for _, s := range []string{
		"1/12,1/15,2/30,1/9,3/50|" + row(60, "1") + "|7,14,21,28,35,42,49,56|5,3",
		"1/12,1/15,2/30,1/20,3/60|" + row(60, "1") + "|7,14,21,28,35,42,49,56|0,0",
	} {
		h := head(s)
		best, least, _ := cheapest(h)
		want := results(best, least, true)
		var callers sync.WaitGroup
		for range 50 {
			callers.Go(func() {
				list, cost, ok := impl.CheapestPlan(h)
				expect(t, "CheapestPlan("+s+") at the same time", results(list, cost, ok), want)
			})
		}
		callers.Wait()
	}
}
