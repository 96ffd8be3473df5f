package tests

import (
	"math"
	"slices"
	"testing"

	"loop.example/g01099/impl"
)

// storing is what the functions of segments receive.
type storing struct {
	y        impl.Yard
	from, to int64
	list     [][]int64
	w        impl.Works
	orders   []impl.Order
	day      int64
}

// goodStoring is one for which all functions succeed.
func goodStoring() storing {
	return storing{
		y: yard("3:1,0|2,5,3|7"), from: 1, to: 2, list: moves("1>0 1>0"),
		w: works("2,2,3"), orders: orders("8:1 12:4 200:9"), day: 12,
	}
}

// callsOfStoring calls every function of segments but ReadYard.
func callsOfStoring(t *testing.T, x storing) string {
	t.Helper()
	tops, one := impl.TopsOf(x.y)
	blockers, two := impl.BlockersOf(x.y)
	after, three := impl.MoveTop(x.y, x.from, x.to)
	rest, four := impl.TakeNext(x.y)
	last, five := impl.RunMoves(x.y, x.list)
	list, six := impl.FewestMoves(x.y)
	text, seven := impl.YardText(x.y)
	ready, eight := impl.ReadyBy(x.w, x.day)
	short, nine := impl.ShortDays(x.w, x.orders)
	moulds, due, ten := impl.FewestMoulds(x.w.Cycle, x.w.Curing, x.orders)
	start, eleven := impl.LatestStart(x.w, x.orders)
	stock, twelve := impl.StockOn(x.w, x.orders, x.day)
	return results(
		impl.ValidYard(x.y), outcome(t, "TopsOf", one, tops), outcome(t, "BlockersOf", two, blockers), outcome(t, "MoveTop", three, after),
		outcome(t, "TakeNext", four, rest), outcome(t, "RunMoves", five, last), outcome(t, "FewestMoves", six, list), outcome(t, "YardText", seven, text),
		impl.ValidOrders(x.orders), impl.ValidWorks(x.w), outcome(t, "ReadyBy", eight, ready), outcome(t, "ShortDays", nine, short),
		outcome(t, "FewestMoulds", ten, moulds, due), outcome(t, "LatestStart", eleven, start), outcome(t, "StockOn", twelve, stock),
	)
}

func TestAllFunctionsOfStoringSucceed(t *testing.T) {
	want := results(
		true, "[[[0 3 7]] true]", "[[[3 5]] true]", "[[{3 [[1 0] [2 5] [7 3]]}] true]", "[[{3 [[1] [2 5 3] [7]]}] true]",
		"[[{3 [[3 5] [] [7]]}] true]", "[[[[1 0] [1 2]]] true]", "[[3:1,0|2,5,3|7] true]",
		true, true, "[[8] true]", "[[[]] true]", "[[2 12] true]", "[[3] true]", "[[3] true]",
	)
	expect(t, "all functions of storing", callsOfStoring(t, goodStoring()), want)
}

func TestStoringReturnsForAllNumbers(t *testing.T) {
	numbers := append(strangeNumbers(), 4, 5, 6, 7, 8, 9, 10, 11, 12, 20, 21, 22, 39, 40, 41, 99, 100, 101, 199, 200, 201, -100, -200)
	for _, n := range numbers {
		for field := range 21 {
			x := goodStoring()
			for i, target := range []*int64{
				&x.y.Height, &x.y.Stacks[0][0], &x.y.Stacks[0][1], &x.y.Stacks[1][1], &x.y.Stacks[2][0], &x.from, &x.to, &x.list[0][0], &x.list[0][1], &x.list[1][0], &x.list[1][1],
				&x.w.Moulds, &x.w.Cycle, &x.w.Curing, &x.orders[0].Due, &x.orders[1].Due, &x.orders[2].Due, &x.orders[0].Pieces, &x.orders[1].Pieces, &x.orders[2].Pieces, &x.day,
			} {
				if i == field {
					*target = n
				}
			}
			expect(t, "the same calls again", callsOfStoring(t, x), callsOfStoring(t, x))
		}
		x := storing{
			y: impl.Yard{Height: n, Stacks: [][]int64{{n}, {n, n}}}, from: n, to: n, list: [][]int64{{n, n}, {n}},
			w: impl.Works{Moulds: n, Cycle: n, Curing: n}, orders: []impl.Order{{Due: n, Pieces: n}, {Due: n, Pieces: n}}, day: n,
		}
		expect(t, "the same calls again", callsOfStoring(t, x), callsOfStoring(t, x))
		x.y = goodStoring().y
		expect(t, "the same calls again", callsOfStoring(t, x), callsOfStoring(t, x))
		x.w = goodStoring().w
		expect(t, "the same calls again", callsOfStoring(t, x), callsOfStoring(t, x))
	}
}

func TestStoringReturnsForLongLists(t *testing.T) {
	const many = 200000
	x := goodStoring()
	x.list, x.orders = slices.Repeat(moves("1>0"), 22), slices.Repeat(orders("8:1"), 9)
	long := callsOfStoring(t, x)
	x.list, x.orders = slices.Repeat(moves("1>0"), many), slices.Repeat(orders("8:1"), many)
	expect(t, "a plan and orders that are too long", callsOfStoring(t, x), long)
	x.list, x.orders = [][]int64{repeated(1, many)}, make([]impl.Order, many)
	expect(t, "a move that is too long", callsOfStoring(t, x), long)
	x.list = make([][]int64, many)
	expect(t, "a plan of empty moves", callsOfStoring(t, x), long)
	x.y = impl.Yard{}
	none := callsOfStoring(t, x)
	for _, stacks := range [][][]int64{{upTo(many)}, {{}, upTo(many)}, {repeated(1, many), repeated(math.MinInt64, many)}, make([][]int64, many), slices.Repeat([][]int64{upTo(many)}, many)} {
		for _, height := range []int64{0, 1, 4, many, math.MaxInt64} {
			x.y = impl.Yard{Height: height, Stacks: stacks}
			expect(t, "a yard with lists that are too long", callsOfStoring(t, x), none)
		}
	}
}

// guardedLists returns a copy of a list of lists, all with unused capacity, and a function that fails the test if something has changed.
func guardedLists(t *testing.T, list [][]int64) ([][]int64, func(call string)) {
	var given [][]int64
	var checks []func(string)
	for _, inner := range list {
		one, check := guarded(t, inner)
		given, checks = append(given, one), append(checks, check)
	}
	// Lists cannot be compared, so that the unused capacity of the outer one is looked at as a text.
	whole := append(given, []int64{guard}, []int64{guard})
	before := results(whole)
	return whole[:len(list)], func(call string) {
		t.Helper()
		expect(t, "the lists after "+call, results(whole), before)
		for _, check := range checks {
			check(call)
		}
	}
}

func TestStoringLeavesItsArgumentsAsTheyWere(t *testing.T) {
	for i, y := range append(sampleYards()[:400], badYards()...) {
		x := goodStoring()
		x.y, x.from, x.to = y, int64(i%3), int64(i/3%4)
		if list, ok := fewestMoves(y); ok && yardIsValid(y) {
			x.list = list
		}
		want := callsOfStoring(t, x)
		given := x
		var one, two, three func(string)
		given.y.Stacks, one = guardedLists(t, x.y.Stacks)
		given.list, two = guardedLists(t, x.list)
		given.orders, three = guardedBy(t, x.orders, impl.Order{Due: guard, Pieces: guard})
		expect(t, "a function of lists with unused capacity", callsOfStoring(t, given), want)
		call := "a function of " + yardText(y)
		one(call)
		two(call)
		three(call)
	}
}

func TestReadYardReturnsForAllTexts(t *testing.T) {
	for _, s := range append(nearlyYards(), "4:-|1,2|3|-", "1:-") {
		y, ok := impl.ReadYard(s)
		again, _ := impl.ReadYard(string([]byte(s)))
		expect(t, "ReadYard again", outcome(t, "ReadYard", ok, y), results([]any{again}, ok))
	}
}

func TestNilAndEmptyListsOfStoringAreTheSame(t *testing.T) {
	x := goodStoring()
	x.y.Stacks, x.list, x.orders = [][]int64{nil, {0, 1}, nil}, nil, nil
	none := callsOfStoring(t, x)
	want := results(
		true, "[[[-1 1 -1]] true]", "[[[1]] true]", "[[{3 [[] [0] [1]]}] true]", "[[{0 []}] false]", "[[{3 [[] [0 1] []]}] true]", "[[[[1 0]]] true]", "[[3:-|0,1|-] true]",
		true, true, "[[8] true]", "[[[]] true]", "[[0 0] false]", "[[200] true]", "[[8] true]",
	)
	expect(t, "nil lists", none, want)
	x.y.Stacks, x.list, x.orders = [][]int64{{}, {0, 1}, {}}, [][]int64{}, []impl.Order{}
	expect(t, "empty lists", callsOfStoring(t, x), none)
	x.y.Stacks = nil
	none = callsOfStoring(t, x)
	x.y.Stacks = [][]int64{}
	expect(t, "a yard without stacks", callsOfStoring(t, x), none)
	x = goodStoring()
	x.list = [][]int64{nil}
	none = callsOfStoring(t, x)
	x.list = [][]int64{{}}
	expect(t, "a move without indices", callsOfStoring(t, x), none)
}

// expectNewLists spoils one inner list of a result after the other, with their unused capacity.
func expectNewLists(t *testing.T, name string, call func() ([][]int64, bool)) {
	t.Helper()
	list, ok := call()
	want := results(list, ok)
	for i := range list {
		spoil(list[i], guard)
		again, ok := call()
		expect(t, "the lists of "+name+" behind one that was spoiled", results(list[i+1:]), results(again[i+1:]))
		expect(t, name+" after a list was spoiled", results(again, ok), want)
	}
	expectNewList(t, name, []int64{guard}, call)
}

func TestStoringReturnsNewLists(t *testing.T) {
	x, blocked := goodStoring(), yard("4:2,3,5|7,8")
	before := results(x, blocked)
	stacks := func(y impl.Yard, ok bool) ([][]int64, bool) { return y.Stacks, ok }
	for name, call := range map[string]func() ([][]int64, bool){
		"MoveTop":             func() ([][]int64, bool) { return stacks(impl.MoveTop(x.y, x.from, x.to)) },
		"TakeNext":            func() ([][]int64, bool) { return stacks(impl.TakeNext(x.y)) },
		"RunMoves":            func() ([][]int64, bool) { return stacks(impl.RunMoves(x.y, x.list[:1])) },
		"RunMoves, no moves":  func() ([][]int64, bool) { return stacks(impl.RunMoves(x.y, nil)) },
		"RunMoves, as it was": func() ([][]int64, bool) { return stacks(impl.RunMoves(blocked, nil)) },
		"FewestMoves":         func() ([][]int64, bool) { return impl.FewestMoves(x.y) },
		"ReadYard":            func() ([][]int64, bool) { return stacks(impl.ReadYard("4:0,1|-|2,3,4|5,6")) },
	} {
		expectNewLists(t, name, call)
	}
	expectNewList(t, "TopsOf", guard, func() ([]int64, bool) { return impl.TopsOf(x.y) })
	expectNewList(t, "BlockersOf", guard, func() ([]int64, bool) { return impl.BlockersOf(x.y) })
	expectNewList(t, "ShortDays", guard, func() ([]int64, bool) { return impl.ShortDays(x.w, orders("8:9 12:1 13:40")) })
	expect(t, "the arguments", results(x, blocked), before)
}
