package tests

import (
	"math"
	"runtime"
	"slices"
	"testing"
	"time"

	"loop.example/g01099/impl"
)

// grouting is what the functions of grout and settlement receive.
type grouting struct {
	g                            impl.Grout
	grouts                       []impl.Grout
	l                            impl.Loss
	losses                       []impl.Loss
	volume, width                int64
	settled                      []int64
	watch, stop, least           int64
	needs, units, others         []int64
	allowed, unit, from, distant int64
}

// goodGrouting is one for which all functions succeed.
func goodGrouting() grouting {
	return grouting{
		g: grouts("3:100/90/10")[0], grouts: grouts("1:100/90/10 3:50/80/0"),
		l: losses("@3 10l/1")[0], losses: losses("@1 10l/1;@2 4l/0"),
		volume: 10, width: 1, settled: surface(map[int]int64{0: 2, 1: 5, 2: 7, 5: 6}), watch: 5, stop: 7, least: 5,
		needs: numbers("0,3,0"), units: numbers("0,1,1"), others: numbers("0,0,2"), allowed: 1, unit: 3, from: 0, distant: 12,
	}
}

// callsOfGrouting calls every function of grout and settlement but ReadLoss.
func callsOfGrouting(t *testing.T, x grouting) string {
	t.Helper()
	loss, one := impl.LossOf(x.g)
	spare, two := impl.SpareOf(x.grouts)
	lost, three := impl.LossesOf(x.grouts, x.width)
	parts, four := impl.TroughOf(x.volume, x.width)
	settled, five := impl.SettlementsOf(x.losses)
	volume, six := impl.VolumeOf(x.settled)
	levels, seven := impl.LevelsOf(x.settled, x.watch, x.stop)
	stretches, eight := impl.StretchesAt(x.settled, x.least)
	point, steepest, nine := impl.SteepestOf(x.settled)
	lifts, ten := impl.LiftsOf(x.units)
	units, total, eleven := impl.LeastUnits(x.needs)
	needs, twelve := impl.LiftNeeds(x.settled, x.allowed, x.unit, x.from)
	far, thirteen := impl.LiftNeeds(x.settled, x.allowed, x.unit, x.distant)
	text, fourteen := impl.LossText(x.l)
	return results(
		impl.ValidGrouts(x.grouts), impl.ValidLosses(x.losses), impl.IsLifted(x.needs, x.units), impl.IsLifted(x.needs, x.others),
		outcome(t, "LossOf", one, loss), outcome(t, "SpareOf", two, spare),
		outcome(t, "LossesOf", three, lost), outcome(t, "TroughOf", four, parts),
		outcome(t, "SettlementsOf", five, settled), outcome(t, "VolumeOf", six, volume),
		outcome(t, "LevelsOf", seven, levels), outcome(t, "StretchesAt", eight, stretches),
		outcome(t, "SteepestOf", nine, point, steepest), outcome(t, "LiftsOf", ten, lifts),
		outcome(t, "LeastUnits", eleven, units, total), outcome(t, "LiftNeeds", twelve, needs),
		outcome(t, "LiftNeeds", thirteen, far), outcome(t, "LossText", fourteen, text),
	)
}

func TestAllFunctionsOfGroutingSucceed(t *testing.T) {
	want := results(
		true, true, true, false, "[[19] true]", "[[30] true]", "[[[{1 19 1} {3 0 1}]] true]", "[[[2 5 3]] true]",
		"[[[2 5 7 0 0 0 0 0 0 0 0 0 0 0 0 0 0 0 0 0 0 0 0 0]] true]", "[[20] true]",
		"[[[0 1 2 0 0 1 0 0 0 0 0 0 0 0 0 0 0 0 0 0 0 0 0 0]] true]", "[[[[1 2] [5 5]]] true]", "[[2 7] true]",
		"[[[1 3 3]] true]", "[[[0 1 1] 2] true]", "[[[1 2 2 0 0 2 0 0 0 0 0 0]] true]", "[[[0 0 0 0 0 0 0 0 0 0 0 0]] true]", "[[@3 10l/1] true]",
	)
	expect(t, "all functions of grouting", callsOfGrouting(t, goodGrouting()), want)
}

func TestGroutingReturnsForAllNumbers(t *testing.T) {
	numbers := append(strangeNumbers(), 5, 6, 7, 12, 13, 22, 23, 24, 60, 61, 100, 101, 100000, 100001, -100000, 2000000, 2000001, -2000000)
	for _, n := range numbers {
		for field := range 31 {
			x := goodGrouting()
			for i, target := range []*int64{
				&x.g.Ring, &x.g.Void, &x.g.Injected, &x.g.Shrink,
				&x.grouts[0].Ring, &x.grouts[1].Ring, &x.grouts[1].Void, &x.grouts[1].Injected, &x.grouts[0].Shrink,
				&x.l.Station, &x.l.Volume, &x.l.Width, &x.losses[0].Station, &x.losses[1].Volume, &x.losses[1].Width,
				&x.volume, &x.width, &x.settled[0], &x.settled[11], &x.settled[23], &x.watch, &x.stop, &x.least,
				&x.needs[0], &x.needs[2], &x.units[1], &x.others[2], &x.allowed, &x.unit, &x.from, &x.distant,
			} {
				if i == field {
					*target = n
				}
			}
			expect(t, "the same calls again", callsOfGrouting(t, x), callsOfGrouting(t, x))
		}
		g, l := impl.Grout{Ring: n, Void: n, Injected: n, Shrink: n}, impl.Loss{Station: n, Volume: n, Width: n}
		x := grouting{
			g: g, grouts: []impl.Grout{g, g}, l: l, losses: []impl.Loss{l, l}, volume: n, width: n, settled: repeated(n, 24), watch: n, stop: n, least: n,
			needs: repeated(n, 3), units: repeated(n, 3), others: repeated(-n, 3), allowed: n, unit: n, from: n, distant: -n,
		}
		expect(t, "the same calls again", callsOfGrouting(t, x), callsOfGrouting(t, x))
	}
}

func TestGroutingReturnsForLongLists(t *testing.T) {
	const many = 200000
	x := goodGrouting()
	x.grouts, x.losses = listOfGrouts(13), make([]impl.Loss, 13)
	x.settled, x.needs, x.units, x.others = repeated(5, 25), repeated(5, 13), repeated(5, 13), repeated(5, 13)
	long := callsOfGrouting(t, x)
	for _, n := range []int64{0, 5, math.MinInt64, math.MaxInt64} {
		g, l := impl.Grout{Ring: n, Void: n, Injected: n, Shrink: n}, impl.Loss{Station: n, Volume: n, Width: n}
		x.grouts, x.losses = slices.Repeat([]impl.Grout{g}, many), slices.Repeat([]impl.Loss{l}, many)
		x.settled, x.needs, x.units, x.others = repeated(n, many), repeated(n, many), repeated(n, many), repeated(n, 3)
		expect(t, "lists that are too long", callsOfGrouting(t, x), long)
	}
}

func TestGroutingLeavesItsArgumentsAsTheyWere(t *testing.T) {
	someGrouts, someLosses := append(sampleGrouts(), badListsOfGrouts()...), append(sampleLosses(), badListsOfLosses()...)
	someSurfaces := append(sampleSurfaces(), badSurfaces()...)
	for i, settled := range someSurfaces {
		x := goodGrouting()
		x.settled = settled
		x.grouts, x.losses = someGrouts[i%len(someGrouts)], someLosses[i%len(someLosses)]
		x.needs, x.units = repeated(int64(i%14), i%13), repeated(int64(i%8), i%13)
		want := callsOfGrouting(t, x)
		var checks [6]func(string)
		x.grouts, checks[0] = guardedBy(t, x.grouts, impl.Grout{Ring: guard})
		x.losses, checks[1] = guardedBy(t, x.losses, impl.Loss{Station: guard})
		x.settled, checks[2] = guarded(t, x.settled)
		x.needs, checks[3] = guarded(t, x.needs)
		x.units, checks[4] = guarded(t, x.units)
		x.others, checks[5] = guarded(t, x.others)
		expect(t, "a function of lists with unused capacity", callsOfGrouting(t, x), want)
		for _, check := range checks {
			check("a function of grouting")
		}
	}
}

func TestReadLossReturnsForAllTexts(t *testing.T) {
	for _, s := range append(nearlyLosses(), "@3 10l/1", "@0 0l/0", "@18 100000l/5") {
		l, ok := impl.ReadLoss(s)
		again, _ := impl.ReadLoss(string([]byte(s)))
		expect(t, "ReadLoss again", outcome(t, "ReadLoss", ok, l), results([]any{again}, ok))
	}
}

func TestNilAndEmptyListsOfGroutingAreTheSame(t *testing.T) {
	x := goodGrouting()
	x.grouts, x.losses, x.settled, x.needs, x.units, x.others = nil, nil, nil, nil, nil, nil
	none := callsOfGrouting(t, x)
	x.grouts, x.losses, x.settled, x.needs, x.units, x.others = []impl.Grout{}, []impl.Loss{}, []int64{}, []int64{}, []int64{}, []int64{}
	expect(t, "empty lists", callsOfGrouting(t, x), none)
	lost, one := impl.LossesOf(nil, 2)
	spare, two := impl.SpareOf(nil)
	settled, three := impl.SettlementsOf(nil)
	expect(t, "no grouts and no losses", results(lost, one, spare, two, settled, three), results([]int64{}, true, 0, true, repeated(0, 24), true))
}

func TestGroutingReturnsNewLists(t *testing.T) {
	x := goodGrouting()
	before := results(x)
	for name, call := range map[string]func() ([]int64, bool){
		"TroughOf":                      func() ([]int64, bool) { return impl.TroughOf(x.volume, x.width) },
		"TroughOf the width 0":          func() ([]int64, bool) { return impl.TroughOf(x.volume, 0) },
		"SettlementsOf":                 func() ([]int64, bool) { return impl.SettlementsOf(x.losses) },
		"SettlementsOf no losses":       func() ([]int64, bool) { return impl.SettlementsOf(nil) },
		"LevelsOf":                      func() ([]int64, bool) { return impl.LevelsOf(x.settled, x.watch, x.stop) },
		"LiftsOf":                       func() ([]int64, bool) { return impl.LiftsOf(x.units) },
		"LiftsOf one point":             func() ([]int64, bool) { return impl.LiftsOf(x.units[1:2]) },
		"LiftNeeds":                     func() ([]int64, bool) { return impl.LiftNeeds(x.settled, x.allowed, x.unit, x.from) },
		"LiftNeeds of what has settled": func() ([]int64, bool) { return impl.LiftNeeds(x.settled, 0, 1, 0) },
		"LeastUnits": func() ([]int64, bool) {
			units, _, ok := impl.LeastUnits(x.needs)
			return units, ok
		},
		"LeastUnits of one point": func() ([]int64, bool) {
			units, _, ok := impl.LeastUnits(x.needs[1:2])
			return units, ok
		},
	} {
		expectNewList(t, name, guard, call)
	}
	expectNewList(t, "LossesOf", impl.Loss{Station: guard}, func() ([]impl.Loss, bool) { return impl.LossesOf(x.grouts, x.width) })
	expect(t, "the arguments", results(x), before)
}

// TestStretchesOwnTheirMemory spoils one inner list of the stretches after the other, with their unused capacity.
func TestStretchesOwnTheirMemory(t *testing.T) {
	settled := surface(map[int]int64{0: 5, 2: 5, 3: 5, 5: 5, 9: 5, 11: 5, 23: 5})
	call := func() ([][]int64, bool) { return impl.StretchesAt(settled, 5) }
	stretches, ok := call()
	want := results(stretches, ok)
	expect(t, "StretchesAt", want, "[[[0 0] [2 3] [5 5] [9 9] [11 11] [23 23]] true]")
	for i := range stretches {
		spoil(stretches[i], guard)
		again, ok := call()
		expect(t, "the stretches behind one that was spoiled", results(stretches[i+1:]), results(again[i+1:]))
		expect(t, "StretchesAt after one was spoiled", results(again, ok), want)
	}
	expectNewList(t, "StretchesAt", []int64{guard}, call)
}

// TestSettlementsAtTheSameTime calls SettlementsOf from several goroutines, each with the same losses.
func TestSettlementsAtTheSameTime(t *testing.T) {
	list := losses("@1 10l/1;@2 4l/0;@18 99999l/5")
	want := results(settlementsOf(list), true)
	got := make(chan string)
	for range 50 {
		go func() {
			settled, ok := impl.SettlementsOf(list)
			got <- results(settled, ok)
		}()
	}
	for range 50 {
		expect(t, "SettlementsOf at the same time", <-got, want)
	}
}

// TestNoGoroutineIsLeft waits for the goroutines of many calls to end.
func TestNoGoroutineIsLeft(t *testing.T) {
	before := runtime.NumGoroutine()
	for range 50 {
		for _, list := range [][]impl.Loss{nil, losses("@1 10l/1;@2 4l/0"), losses("@0 1l/1"), make([]impl.Loss, 13)} {
			impl.SettlementsOf(list)
		}
		callsOfGrouting(t, goodGrouting())
	}
	for range 1000 {
		if runtime.NumGoroutine() <= before {
			return
		}
		time.Sleep(time.Millisecond)
	}
	t.Errorf("there were %d goroutines, and now there are %d", before, runtime.NumGoroutine())
}
