package tests

import (
	"math"
	"math/rand"
	"runtime"
	"slices"
	"testing"
	"time"

	"loop.example/g01099/impl"
)

// cutting is what the functions of cutters receive.
type cutting struct {
	h            impl.Head
	plan         []impl.Stop
	stops        []int64
	cutter, ring int64
	text         string
}

// goodCutting is one for which all functions succeed.
func goodCutting() cutting {
	return cutting{
		h: head("2/20,1/20,3/45|5,5,5,5,5|0,1,2,3|10,3"), plan: stops("1:1;2:0,2"),
		stops: numbers("1,2,3"), cutter: 0, ring: 1, text: "1:0;3:1,2",
	}
}

// callsOfCutting calls every function of cutters but ReadHead.
func callsOfCutting(t *testing.T, x cutting) string {
	t.Helper()
	cost, one := impl.CostOf(x.h, x.plan)
	worn, two := impl.WornAt(x.h, x.plan, x.ring)
	cutter, ring, three := impl.FirstFailure(x.h, x.plan)
	left, four := impl.RangeOf(x.h, x.cutter, x.ring)
	list, five := impl.PlanFor(x.h, x.stops)
	best, least, six := impl.CheapestPlan(x.h)
	needs, seven := impl.NeedsOf(x.h, x.cutter)
	bound, eight := impl.BoundOf(x.h)
	text, nine := impl.HeadText(x.h)
	planned, ten := impl.PlanText(x.h, x.plan)
	read, eleven := impl.ReadPlan(x.h, x.text)
	return results(
		impl.ValidHead(x.h), impl.IsPlan(x.h, x.plan), impl.IsEnough(x.h, x.plan),
		outcome(t, "CostOf", one, cost), outcome(t, "WornAt", two, worn),
		outcome(t, "FirstFailure", three, cutter, ring), outcome(t, "RangeOf", four, left),
		outcome(t, "PlanFor", five, list), outcome(t, "CheapestPlan", six, best, least),
		outcome(t, "NeedsOf", seven, needs), outcome(t, "BoundOf", eight, bound),
		outcome(t, "HeadText", nine, text), outcome(t, "PlanText", ten, planned), outcome(t, "ReadPlan", eleven, read),
	)
}

func TestAllFunctionsOfCuttingSucceed(t *testing.T) {
	want := results(
		true, true, false, "[[29] true]", "[[[10 0 15]] true]", "[[0 4] true]", "[[2] true]",
		"[[[{2 [0]} {3 [0 1 2]}]] true]", "[[[{1 [0]} {3 [0 1 2]}] 32] true]", "[[[[0 2] [2 4]]] true]", "[[32] true]",
		"[[2/20,1/20,3/45|5,5,5,5,5|0,1,2,3|10,3] true]", "[[1:1;2:0,2] true]", "[[[{1 [0]} {3 [1 2]}]] true]",
	)
	expect(t, "all functions of cutting", callsOfCutting(t, goodCutting()), want)
}

func TestCuttingReturnsForAllNumbers(t *testing.T) {
	numbers := append(strangeNumbers(), 4, 5, 6, 7, 8, 9, 58, 59, 60, 61, 63, 99, 100, 101, -100, 10000, 10001, 1000000, 1000001, -1000000)
	for _, n := range numbers {
		for field := range 20 {
			x := goodCutting()
			for i, target := range []*int64{
				&x.h.Cutters[0].Track, &x.h.Cutters[0].Limit, &x.h.Cutters[2].Track, &x.h.Cutters[2].Limit,
				&x.h.Hardness[0], &x.h.Hardness[2], &x.h.Hardness[4], &x.h.Safe[0], &x.h.Safe[2], &x.h.Safe[3], &x.h.StopCost, &x.h.ChangeCost,
				&x.plan[0].Ring, &x.plan[1].Ring, &x.plan[0].Changed[0], &x.plan[1].Changed[1], &x.stops[0], &x.stops[2], &x.cutter, &x.ring,
			} {
				if i == field {
					*target = n
				}
			}
			expect(t, "the same calls again", callsOfCutting(t, x), callsOfCutting(t, x))
		}
		c, s := impl.Cutter{Track: n, Limit: n}, impl.Stop{Ring: n, Changed: repeated(n, 2)}
		x := cutting{
			h:    impl.Head{Cutters: []impl.Cutter{c, c}, Hardness: repeated(n, 3), Safe: repeated(n, 2), StopCost: n, ChangeCost: n},
			plan: []impl.Stop{s, s}, stops: repeated(n, 2), cutter: n, ring: n, text: "0:0",
		}
		expect(t, "the same calls again", callsOfCutting(t, x), callsOfCutting(t, x))
		x.h = goodCutting().h
		expect(t, "the same calls again", callsOfCutting(t, x), callsOfCutting(t, x))
	}
}

func TestCuttingReturnsForLongLists(t *testing.T) {
	const many = 200000
	x := goodCutting()
	x.plan, x.stops, x.text = slices.Repeat(stops("1:0"), 9), repeated(1, 9), "1:0;1:0"
	long := callsOfCutting(t, x)
	x.plan, x.stops, x.text = slices.Repeat(stops("1:0"), many), repeated(1, many), planText(slices.Repeat(stops("1:0"), many))
	expect(t, "a plan that is too long", callsOfCutting(t, x), long)
	x.plan = []impl.Stop{{Ring: 1, Changed: repeated(0, many)}}
	expect(t, "a stop that is too long", callsOfCutting(t, x), long)
	x.h = impl.Head{}
	none := callsOfCutting(t, x)
	good := goodCutting().h
	cutters, hardness := slices.Repeat(good.Cutters, many), repeated(5, many)
	for _, h := range []impl.Head{
		{Cutters: cutters, Hardness: good.Hardness, Safe: good.Safe},
		{Cutters: good.Cutters, Hardness: hardness, Safe: good.Safe},
		{Cutters: good.Cutters, Hardness: good.Hardness, Safe: repeated(1, many)},
		{Cutters: good.Cutters, Hardness: good.Hardness, Safe: upTo(many)},
		{Cutters: good.Cutters, Hardness: hardness, Safe: upTo(many)},
		{Cutters: cutters, Hardness: repeated(math.MaxInt64, many), Safe: repeated(math.MinInt64, many)},
	} {
		x.h = h
		expect(t, "a head with lists that are too long", callsOfCutting(t, x), none)
	}
}

// guardedCutting returns a copy of what functions receive whose lists have unused capacity, and a function that fails the test if one of them has changed.
func guardedCutting(t *testing.T, x cutting) (cutting, func(call string)) {
	var checks []func(string)
	copied := func(list []int64) []int64 {
		given, check := guarded(t, list)
		checks = append(checks, check)
		return given
	}
	given := x
	given.h.Hardness, given.h.Safe, given.stops = copied(x.h.Hardness), copied(x.h.Safe), copied(x.stops)
	cutters, check := guardedBy(t, x.h.Cutters, impl.Cutter{Track: guard})
	given.h.Cutters, checks = cutters, append(checks, check)
	given.plan = nil
	for _, s := range x.plan {
		given.plan = append(given.plan, impl.Stop{Ring: s.Ring, Changed: copied(s.Changed)})
	}
	// Stops cannot be compared, so that their unused capacity is looked at as a text.
	fill := impl.Stop{Ring: guard, Changed: []int64{guard}}
	whole := append(slices.Clone(given.plan), fill, fill)
	given.plan = whole[:len(x.plan)]
	before := results(whole)
	return given, func(call string) {
		t.Helper()
		expect(t, "the plan after "+call, results(whole), before)
		for _, check := range checks {
			check(call)
		}
	}
}

func TestCuttingLeavesItsArgumentsAsTheyWere(t *testing.T) {
	random := rand.New(rand.NewSource(85))
	for i, h := range append(sampleHeads()[:250], badHeads()...) {
		x := goodCutting()
		x.h, x.cutter, x.ring = h, int64(i%3), int64(i%4)
		if headIsValid(h) {
			x.plan, x.stops = randomPlan(random, h), someOf(random.Int63(), h.Safe)
		}
		x.text = planText(x.plan)
		want := callsOfCutting(t, x)
		given, check := guardedCutting(t, x)
		expect(t, "a function of lists with unused capacity", callsOfCutting(t, given), want)
		check("a function of " + headText(h))
	}
}

func TestReadHeadReturnsForAllTexts(t *testing.T) {
	for _, s := range append(nearlyHeads(), headOfPlans, "1/1|||0,0") {
		h, ok := impl.ReadHead(s)
		again, _ := impl.ReadHead(string([]byte(s)))
		expect(t, "ReadHead again", outcome(t, "ReadHead", ok, h), results([]any{again}, ok))
	}
}

func TestReadPlanReturnsForAllTexts(t *testing.T) {
	h := head(headOfPlans)
	for _, s := range append(nearlyPlans(), "", "1:0;2:0,1") {
		list, ok := impl.ReadPlan(h, s)
		again, _ := impl.ReadPlan(h, string([]byte(s)))
		expect(t, "ReadPlan again", outcome(t, "ReadPlan", ok, list), results([]any{again}, ok))
	}
}

func TestNilAndEmptyListsOfCuttingAreTheSame(t *testing.T) {
	x := goodCutting()
	x.h.Hardness, x.h.Safe, x.plan, x.stops, x.ring, x.text = nil, nil, nil, nil, 0, ""
	none := callsOfCutting(t, x)
	want := results(
		true, true, true, "[[0] true]", "[[[0 0 0]] true]", "[[0 0] false]", "[[0] false]", "[[[]] true]", "[[[] 0] true]", "[[[]] true]", "[[0] true]",
		"[[2/20,1/20,3/45|||10,3] true]", "[[] true]", "[[[]] true]",
	)
	expect(t, "nil lists", none, want)
	x.h.Hardness, x.h.Safe, x.plan, x.stops = []int64{}, []int64{}, []impl.Stop{}, []int64{}
	expect(t, "empty lists", callsOfCutting(t, x), none)
	x.h.Cutters = nil
	none = callsOfCutting(t, x)
	x.h.Cutters = []impl.Cutter{}
	expect(t, "a head without cutters", callsOfCutting(t, x), none)
	x = goodCutting()
	x.plan = []impl.Stop{{Ring: 1}}
	none = callsOfCutting(t, x)
	x.plan = []impl.Stop{{Ring: 1, Changed: []int64{}}}
	expect(t, "a stop without cutters", callsOfCutting(t, x), none)
}

// TestPlansOwnTheirMemory spoils one inner list of a returned plan after the other, with their unused capacity.
func TestPlansOwnTheirMemory(t *testing.T) {
	x := goodCutting()
	before := results(x)
	for name, call := range map[string]func() ([]impl.Stop, bool){
		"PlanFor":                func() ([]impl.Stop, bool) { return impl.PlanFor(x.h, x.stops) },
		"PlanFor all Safe rings": func() ([]impl.Stop, bool) { return impl.PlanFor(x.h, x.h.Safe) },
		"ReadPlan":               func() ([]impl.Stop, bool) { return impl.ReadPlan(x.h, x.text) },
		"ReadPlan, all cutters":  func() ([]impl.Stop, bool) { return impl.ReadPlan(x.h, "0:0,1,2;1:0,1,2;2:0,1,2;3:0,1,2") },
		"CheapestPlan": func() ([]impl.Stop, bool) {
			list, _, ok := impl.CheapestPlan(x.h)
			return list, ok
		},
	} {
		list, ok := call()
		want := results(list, ok)
		for i := range list {
			spoil(list[i].Changed, guard)
			again, ok := call()
			expect(t, "the stops of "+name+" behind one that was spoiled", results(list[i+1:]), results(again[i+1:]))
			expect(t, name+" after a stop was spoiled", results(again, ok), want)
		}
		expectNewList(t, name, impl.Stop{Ring: guard}, call)
	}
	expect(t, "the arguments", results(x), before)
}

func TestCuttingReturnsNewLists(t *testing.T) {
	x := goodCutting()
	before := results(x)
	expectNewList(t, "WornAt", guard, func() ([]int64, bool) { return impl.WornAt(x.h, x.plan, x.ring) })
	expectNewList(t, "WornAt the ring 0", guard, func() ([]int64, bool) { return impl.WornAt(x.h, nil, 0) })
	expectNewLists(t, "NeedsOf", func() ([][]int64, bool) { return impl.NeedsOf(x.h, x.cutter) })
	expect(t, "the arguments", results(x), before)
}

func TestReadHeadReturnsNewLists(t *testing.T) {
	read := func() impl.Head {
		h, _ := impl.ReadHead(headOfPlans)
		return h
	}
	h := read()
	spoil(h.Hardness, guard)
	expect(t, "the head behind its hardness", results(h.Cutters, h.Safe), results(read().Cutters, read().Safe))
	spoil(h.Safe, guard)
	expect(t, "the cutters behind the Safe rings", results(h.Cutters), results(read().Cutters))
	spoil(h.Cutters, impl.Cutter{Track: guard})
	expect(t, "ReadHead after its result was spoiled", headText(read()), headOfPlans)
}

// TestNoSearcherIsLeft waits for the goroutines of many calls to end.
func TestNoSearcherIsLeft(t *testing.T) {
	before := runtime.NumGoroutine()
	for range 50 {
		callsOfCutting(t, goodCutting())
		for _, h := range badHeads() {
			impl.CheapestPlan(h)
		}
	}
	for range 1000 {
		if runtime.NumGoroutine() <= before {
			return
		}
		time.Sleep(time.Millisecond)
	}
	t.Errorf("there were %d goroutines, and now there are %d", before, runtime.NumGoroutine())
}
