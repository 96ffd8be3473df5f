package tests

import (
	"math"
	"slices"
	"testing"

	"loop.example/g01099/impl"
)

// muck is what the functions of grounds and balances receive.
type muck struct {
	g                          impl.Ground
	a                          impl.Axis
	ring, height, k            int64
	h                          impl.Hole
	weighed, expected, balance []int64
	allowance, limit           int64
}

// goodMuck is one for which all functions succeed.
func goodMuck() muck {
	return muck{
		g: ground("1800,2100|0:5000,1000|10:5000,-1000|12:400,400"), a: axis("0,0,0,200;2:0,1;1:0,0"),
		ring: 3, height: 100, k: 1, h: hole("5:4000,3000"),
		weighed: numbers("99000,98000"), expected: numbers("97500,98500"), balance: numbers("3,-9,5,4"), allowance: 1, limit: 6,
	}
}

// callsOfMuck calls every function of grounds and balances but ReadGround.
func callsOfMuck(t *testing.T, x muck) string {
	t.Helper()
	tops, one := impl.TopsAt(x.g, x.ring)
	class, two := impl.ClassAt(x.g, x.ring, x.height)
	face, three := impl.FaceOf(x.g, x.ring, x.height)
	weight, four := impl.WeightOf(x.g, x.ring, x.height)
	classes, five := impl.ClassesAlong(x.g, x.a)
	mixed, six := impl.MixedRings(x.g, x.a)
	weights, seven := impl.PrognosisOf(x.g, x.a)
	more, eight := impl.AddHole(x.g, x.h)
	less, nine := impl.DropHole(x.g, x.k)
	balance, ten := impl.BalanceOf(x.weighed, x.expected)
	sums, eleven := impl.SumsOf(x.balance, x.allowance)
	begin, raised, twelve := impl.AlarmOf(x.balance, x.allowance, x.limit)
	first, last, excess, thirteen := impl.GreatestExcess(x.balance, x.allowance)
	least, fourteen := impl.LeastAllowance(x.balance, x.limit)
	text, fifteen := impl.GroundText(x.g)
	return results(
		impl.ValidGround(x.g),
		outcome(t, "TopsAt", one, tops), outcome(t, "ClassAt", two, class),
		outcome(t, "FaceOf", three, face), outcome(t, "WeightOf", four, weight),
		outcome(t, "ClassesAlong", five, classes), outcome(t, "MixedRings", six, mixed),
		outcome(t, "PrognosisOf", seven, weights), outcome(t, "AddHole", eight, more),
		outcome(t, "DropHole", nine, less), outcome(t, "BalanceOf", ten, balance),
		outcome(t, "SumsOf", eleven, sums), outcome(t, "AlarmOf", twelve, begin, raised),
		outcome(t, "GreatestExcess", thirteen, first, last, excess), outcome(t, "LeastAllowance", fourteen, least),
		outcome(t, "GroundText", fifteen, text),
	)
}

func TestAllFunctionsOfMuckSucceed(t *testing.T) {
	want := results(
		true, "[[[5000 400]] true]", "[[1] true]", "[[[500 500 0]] true]", "[[97500] true]",
		"[[[1 1 1]] true]", "[[[0 1 2]] true]", "[[[101205 99375 97500]] true]",
		"[[{[1800 2100] [{0 [5000 1000]} {5 [4000 3000]} {10 [5000 -1000]} {12 [400 400]}]}] true]",
		"[[{[1800 2100] [{0 [5000 1000]} {12 [400 400]}]}] true]",
		"[[[1500 -500]] true]", "[[[2 0 4 7]] true]", "[[2 3] true]", "[[2 3 7] true]", "[[2] true]",
		"[[1800,2100|0:5000,1000|10:5000,-1000|12:400,400] true]",
	)
	expect(t, "all functions of muck", callsOfMuck(t, goodMuck()), want)
}

func TestMuckReturnsForAllNumbers(t *testing.T) {
	numbers := append(strangeNumbers(), 5, 10, 11, 12, 60, 61, 400, 401, -401, 3000, 3001, 100000, 100001, -100000, -100001, 1000000, 1000001, -1000000, -1000001)
	for _, n := range numbers {
		for field := range 24 {
			x := goodMuck()
			for i, target := range []*int64{
				&x.g.Densities[0], &x.g.Densities[1], &x.g.Holes[0].Ring, &x.g.Holes[1].Ring, &x.g.Holes[2].Ring,
				&x.g.Holes[0].Tops[0], &x.g.Holes[0].Tops[1], &x.g.Holes[1].Tops[1], &x.g.Holes[2].Tops[0], &x.a.Start.Height, &x.a.Curves[0].Rings,
				&x.ring, &x.height, &x.k, &x.h.Ring, &x.h.Tops[0], &x.h.Tops[1],
				&x.weighed[0], &x.expected[1], &x.balance[0], &x.balance[1], &x.balance[3], &x.allowance, &x.limit,
			} {
				if i == field {
					*target = n
				}
			}
			expect(t, "the same calls again", callsOfMuck(t, x), callsOfMuck(t, x))
		}
		all := impl.Hole{Ring: n, Tops: repeated(n, 2)}
		x := muck{g: impl.Ground{Densities: repeated(n, 2), Holes: []impl.Hole{all, all}}, a: goodMuck().a, ring: n, height: n, k: n, h: all, weighed: repeated(n, 3), expected: repeated(-n, 3), balance: repeated(n, 3), allowance: n, limit: n}
		expect(t, "the same calls again", callsOfMuck(t, x), callsOfMuck(t, x))
		x.g = goodMuck().g
		expect(t, "the same calls again", callsOfMuck(t, x), callsOfMuck(t, x))
	}
}

func TestMuckReturnsForLongLists(t *testing.T) {
	const many = 200000
	x := goodMuck()
	x.h.Tops = repeated(0, many)
	x.weighed, x.expected, x.balance = repeated(5, 61), repeated(5, 61), repeated(5, 61)
	long := callsOfMuck(t, x)
	x.weighed, x.expected, x.balance = repeated(5, many), repeated(math.MinInt64, many), repeated(math.MaxInt64, many)
	expect(t, "lists that are too long", callsOfMuck(t, x), long)
	x = goodMuck()
	x.g = impl.Ground{}
	none := callsOfMuck(t, x)
	for _, g := range []impl.Ground{
		{Densities: repeated(1, many), Holes: []impl.Hole{{Tops: repeated(0, many)}}},
		{Densities: repeated(1, 1), Holes: make([]impl.Hole, many)},
		{Densities: repeated(1, 1), Holes: []impl.Hole{{Tops: repeated(0, many)}}},
		{Densities: repeated(1, 1), Holes: slices.Repeat([]impl.Hole{{Tops: repeated(0, 1)}}, many)},
	} {
		x.g = g
		expect(t, "a ground with lists that are too long", callsOfMuck(t, x), none)
	}
}

// guardedGround returns a copy of a ground whose lists have unused capacity, and a function that fails the test if one of them has changed.
func guardedGround(t *testing.T, g impl.Ground) (impl.Ground, func(call string)) {
	var checks []func(string)
	copied := func(list []int64) []int64 {
		given, check := guarded(t, list)
		checks = append(checks, check)
		return given
	}
	given := impl.Ground{Densities: copied(g.Densities)}
	for _, h := range g.Holes {
		given.Holes = append(given.Holes, impl.Hole{Ring: h.Ring, Tops: copied(h.Tops)})
	}
	// Holes cannot be compared, so that their unused capacity is looked at as a text.
	fill := impl.Hole{Ring: guard, Tops: []int64{guard}}
	whole := append(slices.Clone(given.Holes), fill, fill)
	given.Holes = whole[:len(g.Holes)]
	before := results(whole)
	return given, func(call string) {
		t.Helper()
		expect(t, "the holes after "+call, results(whole), before)
		for _, check := range checks {
			check(call)
		}
	}
}

func TestMuckLeavesItsArgumentsAsTheyWere(t *testing.T) {
	for _, g := range append(sampleGrounds()[:100], badGrounds()...) {
		for _, k := range []int64{0, 2, 5} {
			x := goodMuck()
			x.g, x.k = g, k
			x.h = impl.Hole{Ring: 7 * k, Tops: repeated(k, len(g.Densities))}
			want := callsOfMuck(t, x)
			given, check := guardedGround(t, g)
			x.g = given
			var checks [4]func(string)
			x.h.Tops, checks[0] = guarded(t, x.h.Tops)
			x.weighed, checks[1] = guarded(t, x.weighed)
			x.expected, checks[2] = guarded(t, x.expected)
			x.balance, checks[3] = guarded(t, x.balance)
			expect(t, "a function of lists with unused capacity", callsOfMuck(t, x), want)
			for _, check := range append(checks[:], check) {
				check("a function of " + groundText(g))
			}
		}
	}
}

func TestReadGroundReturnsForAllTexts(t *testing.T) {
	for _, s := range append(nearlyGrounds(), "1|0:5", "1800,2100|0:5000,1000|10:5000,-1000") {
		g, ok := impl.ReadGround(s)
		again, _ := impl.ReadGround(string([]byte(s)))
		expect(t, "ReadGround again", outcome(t, "ReadGround", ok, g), results([]any{again}, ok))
	}
}

func TestNilAndEmptyListsOfMuckAreTheSame(t *testing.T) {
	x := goodMuck()
	x.g, x.h = impl.Ground{}, impl.Hole{}
	x.weighed, x.expected, x.balance = nil, nil, nil
	none := callsOfMuck(t, x)
	x.g = impl.Ground{Densities: []int64{}, Holes: []impl.Hole{}}
	x.h.Tops = []int64{}
	x.weighed, x.expected, x.balance = []int64{}, []int64{}, []int64{}
	expect(t, "empty lists", callsOfMuck(t, x), none)
	balance, one := impl.BalanceOf(nil, []int64{})
	sums, two := impl.SumsOf(nil, 1)
	least, three := impl.LeastAllowance(nil, 0)
	expect(t, "an empty balance", results(balance, one, sums, two, least, three), "[[] true [] true 0 true]")
}

func TestMuckReturnsNewLists(t *testing.T) {
	x := goodMuck()
	before := results(x)
	for name, call := range map[string]func() ([]int64, bool){
		"TopsAt":                       func() ([]int64, bool) { return impl.TopsAt(x.g, x.ring) },
		"TopsAt a hole":                func() ([]int64, bool) { return impl.TopsAt(x.g, 10) },
		"TopsAt behind the last hole":  func() ([]int64, bool) { return impl.TopsAt(x.g, 60) },
		"FaceOf":                       func() ([]int64, bool) { return impl.FaceOf(x.g, x.ring, x.height) },
		"ClassesAlong":                 func() ([]int64, bool) { return impl.ClassesAlong(x.g, x.a) },
		"MixedRings":                   func() ([]int64, bool) { return impl.MixedRings(x.g, x.a) },
		"PrognosisOf":                  func() ([]int64, bool) { return impl.PrognosisOf(x.g, x.a) },
		"BalanceOf":                    func() ([]int64, bool) { return impl.BalanceOf(x.weighed, x.expected) },
		"SumsOf":                       func() ([]int64, bool) { return impl.SumsOf(x.balance, x.allowance) },
		"SumsOf without any allowance": func() ([]int64, bool) { return impl.SumsOf(x.balance, 0) },
	} {
		expectNewList(t, name, guard, call)
	}
	expect(t, "the arguments", results(x), before)
}

// TestChangedGroundsOwnTheirMemory spoils one list of a returned ground after the other, with their unused capacity.
func TestChangedGroundsOwnTheirMemory(t *testing.T) {
	x := goodMuck()
	before := results(x)
	shared := repeated(7, 2)
	for name, change := range map[string]func() (impl.Ground, bool){
		"AddHole":            func() (impl.Ground, bool) { return impl.AddHole(x.g, x.h) },
		"AddHole at the end": func() (impl.Ground, bool) { return impl.AddHole(x.g, impl.Hole{Ring: 60, Tops: x.h.Tops}) },
		"DropHole":           func() (impl.Ground, bool) { return impl.DropHole(x.g, x.k) },
		"DropHole the last":  func() (impl.Ground, bool) { return impl.DropHole(x.g, 2) },
		"ReadGround":         func() (impl.Ground, bool) { return impl.ReadGround("1800,2100|0:5000,1000|10:5000,-1000") },
		"AddHole with tops that holes share": func() (impl.Ground, bool) {
			g := impl.Ground{Densities: shared, Holes: []impl.Hole{{Ring: 1, Tops: shared}, {Ring: 3, Tops: shared}}}
			return impl.AddHole(g, impl.Hole{Ring: 2, Tops: shared})
		},
	} {
		g, ok := change()
		want := results(groundText(g))
		if !ok {
			t.Fatalf("%s fails", name)
		}
		spoil(g.Densities, guard)
		for i := range g.Holes {
			spoil(g.Holes[i].Tops, guard)
			// The tops of the other holes are still those of a second call.
			again, _ := change()
			expect(t, "other holes of "+name, results(g.Holes[i+1:]), results(again.Holes[i+1:]))
		}
		spoil(g.Holes, impl.Hole{Ring: guard})
		again, _ := change()
		expect(t, name+" after its result was spoiled", results(groundText(again)), want)
	}
	expect(t, "the arguments", results(x, shared), "["+before[1:len(before)-1]+" [7 7]]")
}
