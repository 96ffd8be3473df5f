package tests

import (
	"math"
	"slices"
	"testing"

	"loop.example/g01099/impl"
)

// work is what the functions of machines receive beside the machine.
type work struct {
	bend, rise, key int64
	ring            impl.Ring
	cycles          []impl.Cycle
	gaps, strokes   []int64
}

// goodWork is one for which all functions succeed, with goodMachine as it is or with an Advance with which a ring can be built.
func goodWork() work {
	return work{bend: 1, rise: -1, key: 3, ring: ring("t3"), cycles: cycles("1,0 t0; 0,-1 s2"), gaps: numbers("36,40,44,40"), strokes: numbers("798,800,802,800")}
}

// goodMachine can be pushed.
func goodMachine() impl.Machine { return machine("0,0,2,0/0,0,1,0/800") }

// callsOfMachine calls every function of machines but ReadMachine.
func callsOfMachine(t *testing.T, m impl.Machine, w work) string {
	t.Helper()
	gaps, one := impl.GapsOf(m)
	strokes, two := impl.StrokesOf(m)
	from, three := impl.MachineFrom(m.Tube, w.gaps, w.strokes)
	least, at, four := impl.LeastGap(m)
	pushed, five := impl.PushMachine(m, w.bend, w.rise)
	built, six := impl.BuildRing(m, w.ring)
	low, high, seven := impl.PushRange(m)
	keys, eight := impl.FittingKeys(m)
	outlook, nine := impl.OutlookOf(m, w.key)
	best, ten := impl.BestKey(m)
	last, whole, eleven := impl.DoCycles(m, w.cycles)
	tube, twelve := impl.TubeOf(m, w.cycles)
	mirror, thirteen := impl.MirrorMachine(m)
	text, fourteen := impl.MachineText(m)
	return results(
		impl.ValidMachine(m),
		outcome(t, "GapsOf", one, gaps), outcome(t, "StrokesOf", two, strokes),
		outcome(t, "MachineFrom", three, from), outcome(t, "LeastGap", four, least, at),
		outcome(t, "PushMachine", five, pushed), outcome(t, "BuildRing", six, built),
		outcome(t, "PushRange", seven, low, high), outcome(t, "FittingKeys", eight, keys),
		outcome(t, "OutlookOf", nine, outlook), outcome(t, "BestKey", ten, best),
		outcome(t, "DoCycles", eleven, last, whole), outcome(t, "TubeOf", twelve, tube),
		outcome(t, "MirrorMachine", thirteen, mirror), outcome(t, "MachineText", fourteen, text),
	)
}

func TestMachinesReturnForAllNumbers(t *testing.T) {
	numbers := append(strangeNumbers(), 12, 13, -12, -13, 15, 16, 40, 41, -41, 400, 401, -401, 900, 1500, 2400, 2401, 100000, 100001, -100001)
	for _, n := range numbers {
		for _, advance := range []int64{800, 2100} {
			for field := range 26 {
				m, w := goodMachine(), goodWork()
				m.Advance = advance
				for i, target := range []*int64{
					&m.Shield.Side, &m.Shield.Height, &m.Shield.Yaw, &m.Shield.Pitch,
					&m.Tube.Side, &m.Tube.Height, &m.Tube.Yaw, &m.Tube.Pitch, &m.Advance,
					&w.bend, &w.rise, &w.key, &w.ring.Kind, &w.ring.Key,
					&w.cycles[0].Bend, &w.cycles[1].Rise, &w.cycles[0].Ring.Kind, &w.cycles[1].Ring.Key,
					&w.gaps[0], &w.gaps[1], &w.gaps[2], &w.gaps[3], &w.strokes[0], &w.strokes[1], &w.strokes[2], &w.strokes[3],
				} {
					if i == field {
						*target = n
					}
				}
				expect(t, "the same calls again", callsOfMachine(t, m, w), callsOfMachine(t, m, w))
			}
		}
		every := impl.Pose{Side: n, Height: n, Yaw: n, Pitch: n}
		w := work{bend: n, rise: n, key: n, ring: impl.Ring{Kind: n, Key: n}, cycles: []impl.Cycle{{Bend: n, Rise: n, Ring: impl.Ring{Kind: n, Key: n}}}, gaps: repeated(n, 4), strokes: repeated(n, 4)}
		for _, m := range []impl.Machine{goodMachine(), {Shield: every, Tube: every, Advance: n}, {Shield: every}, {Tube: every}} {
			expect(t, "the same calls again", callsOfMachine(t, m, w), callsOfMachine(t, m, w))
		}
	}
}

func TestMachinesReturnForLongLists(t *testing.T) {
	m, w := goodMachine(), goodWork()
	w.cycles = slices.Repeat(cycles("0,0 s0"), 100000)
	w.gaps, w.strokes = repeated(40, 100000), repeated(800, 100000)
	long := callsOfMachine(t, m, w)
	w.cycles = slices.Repeat([]impl.Cycle{{Bend: math.MaxInt64, Rise: math.MinInt64, Ring: impl.Ring{Kind: math.MaxInt64, Key: math.MinInt64}}}, 21)
	w.gaps, w.strokes = repeated(40, 5), repeated(math.MaxInt64, 5)
	expect(t, "lists that are too long", callsOfMachine(t, m, w), long)
}

func TestMachinesLeaveTheirArgumentsAsTheyWere(t *testing.T) {
	fill := impl.Cycle{Bend: guard, Rise: guard, Ring: impl.Ring{Kind: guard, Key: guard}}
	for _, m := range append(sampleMachines()[:100], goodMachine()) {
		for _, list := range []string{"", "1,0 t0; 0,-1 s2", "0,0 s0; 0,13 s0; 0,0 t1", "0,0 s0; 0,1 s16; 0,0 t1"} {
			w := goodWork()
			w.cycles, w.gaps, w.strokes = cycles(list), gapsOf(m), strokesOf(m)
			want := callsOfMachine(t, m, w)
			given := w
			var checks [3]func(string)
			given.cycles, checks[0] = guardedBy(t, w.cycles, fill)
			given.gaps, checks[1] = guarded(t, w.gaps)
			given.strokes, checks[2] = guarded(t, w.strokes)
			expect(t, "a function of lists with unused capacity", callsOfMachine(t, m, given), want)
			for _, check := range checks {
				check("a function of machines")
			}
		}
	}
}

func TestReadMachineReturnsForAllTexts(t *testing.T) {
	for _, s := range append(strangeTexts(), nearlyMachines()...) {
		m, ok := impl.ReadMachine(s)
		again, _ := impl.ReadMachine(string([]byte(s)))
		expect(t, "ReadMachine again", outcome(t, "ReadMachine", ok, m), results([]any{again}, ok))
	}
}

func TestNilAndEmptyListsOfMachinesAreTheSame(t *testing.T) {
	m, w := goodMachine(), goodWork()
	w.cycles, w.gaps, w.strokes = nil, nil, nil
	none := callsOfMachine(t, m, w)
	w.cycles, w.gaps, w.strokes = []impl.Cycle{}, []int64{}, []int64{}
	expect(t, "empty lists", callsOfMachine(t, m, w), none)
	last, whole, one := impl.DoCycles(m, nil)
	tube, two := impl.TubeOf(m, nil)
	expect(t, "no cycles", results(machineText(last), whole, one, tube, two), results(machineText(m), 0, true, []impl.Pose{m.Tube}, true))
}

func TestMachinesReturnNewLists(t *testing.T) {
	pushes := goodMachine()
	m := pushes
	m.Advance = 2100
	list := goodWork().cycles
	shown := results(m, list)
	for name, call := range map[string]func() ([]int64, bool){
		"GapsOf":      func() ([]int64, bool) { return impl.GapsOf(m) },
		"StrokesOf":   func() ([]int64, bool) { return impl.StrokesOf(m) },
		"FittingKeys": func() ([]int64, bool) { return impl.FittingKeys(m) },
	} {
		expectNewList(t, name, guard, call)
	}
	expectNewList(t, "TubeOf", impl.Pose{Side: guard}, func() ([]impl.Pose, bool) { return impl.TubeOf(pushes, list) })
	expect(t, "the arguments", results(m, list), shown)
	// MachineFrom receives lists that are not those of its result.
	gaps, _ := impl.GapsOf(m)
	strokes, _ := impl.StrokesOf(m)
	from, one := impl.MachineFrom(m.Tube, gaps, strokes)
	spoil(gaps, guard)
	spoil(strokes, guard)
	expect(t, "MachineFrom lists that are spoiled later", found(from, one), machineText(m))
}
