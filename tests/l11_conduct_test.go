package tests

import (
	"fmt"
	"math"
	"slices"
	"strings"
	"testing"

	"loop.example/g01099/impl"
)

// driving is what the functions of drives receive.
type driving struct {
	a                impl.Axis
	g                impl.Ground
	allowance, limit int64
	d, e             impl.Drive
	x                impl.Deed
	list             []impl.Deed
	width, count     int64
	text             string
	journal, script  string
}

// many is more than any list or text of a drive may have.
const many = 100000

// goodDriving is one for which all functions succeed.
func goodDriving() driving {
	d := straight(9, "push 0 0 92000;build s0;push 0 0 90000;build t2;push 1 1 90500;grout 100 90 10")
	return driving{
		a: axis("0,0,3,-1;2:1,0;1:0,1"), g: ground("1800,2100|0:5000,1000|10:5000,-1000"), allowance: 500, limit: 1000,
		d: d, e: copyOf(d), x: deed("build s0"), list: deeds("build s4;push 0 0 89000;grout 5 6 7"), width: 0, count: 2, text: "push 1 0 90000",
		journal: journalOf(deeds("build t4;push 1 0 90000")), script: "build t4\nrings\noff\nalarm\nnext 1\n",
	}
}

// callsOfDriving calls every function of drives, deeds, journals and scripts.
func callsOfDriving(t *testing.T, x driving) string {
	t.Helper()
	first, one := impl.NewDrive(x.a, x.g, x.allowance, x.limit)
	next, two := impl.DoDeed(x.d, x.x)
	last, done, three := impl.DoDeeds(x.d, x.list)
	side, height, four := impl.OffAxis(x.d)
	expected, five := impl.ExpectedNow(x.d)
	begin, raised, six := impl.AlarmNow(x.d)
	settled, seven := impl.SettledNow(x.d, x.width)
	buildable, eight := impl.BuildableRings(x.d)
	rings, nine := impl.NextRings(x.d, x.count)
	text, ten := impl.DeedText(x.x)
	read, eleven := impl.ReadDeed(x.text)
	journal, twelve := impl.JournalText(x.list)
	list, thirteen := impl.ReadJournal(x.journal)
	found, length, fourteen := impl.RecoverJournal(x.journal)
	replayed, fifteen := impl.ReplayJournal(x.d, x.journal)
	output, sixteen := impl.RunScript(x.d, x.script)
	return results(
		impl.ValidDrive(x.d), impl.SameDrive(x.d, x.e), impl.ValidDeed(x.x),
		outcome(t, "NewDrive", one, first), outcome(t, "DoDeed", two, next), outcome(t, "DoDeeds", three, last, done),
		outcome(t, "OffAxis", four, side, height), outcome(t, "ExpectedNow", five, expected), outcome(t, "AlarmNow", six, begin, raised),
		outcome(t, "SettledNow", seven, settled), outcome(t, "BuildableRings", eight, buildable), outcome(t, "NextRings", nine, rings),
		outcome(t, "DeedText", ten, text), outcome(t, "ReadDeed", eleven, read), outcome(t, "JournalText", twelve, journal),
		outcome(t, "ReadJournal", thirteen, list), outcome(t, "RecoverJournal", fourteen, found, length),
		outcome(t, "ReplayJournal", fifteen, replayed), outcome(t, "RunScript", sixteen, output),
	)
}

func TestAllFunctionsOfDrivingSucceed(t *testing.T) {
	x := goodDriving()
	pushed := after(x.d, "build s0")
	further := after(x.d, "build s4;push 0 0 89000;grout 5 6 7")
	replayed := after(x.d, "build t4;push 1 0 90000")
	got := []string{shownDrive(x.d), shownDrive(pushed), shownDrive(further), shownDrive(replayed)}
	for i, want := range []string{
		"0,0,1,1/0,0,7,7/1800|s0 t2|2000,0,500|[{1 100 90 10}]",
		"0,0,1,1/7,7,7,7/300|s0 t2 s0|2000,0,500|[{1 100 90 10}]",
		"1,1,1,1/7,7,7,7/1800|s0 t2 s4|2000,0,500,-1000|[{1 100 90 10} {2 5 6 7}]",
		"1,1,2,1/7,7,7,17/1800|s0 t2 t4|2000,0,500,0|[{1 100 90 10}]",
	} {
		expect(t, "a drive", got[i], want)
	}
	want := results(
		true, true, true,
		results([]any{drive("0,0,3,-1;2:1,0;1:0,1", "1800,2100|0:5000,1000|10:5000,-1000", 500, 1000)}, true),
		results([]any{pushed}, true), results([]any{further, 3}, true),
		"[[0 0] true]", "[[90000] true]", "[[0 0] true]", "[[[0 19"+strings.Repeat(" 0", 22)+"]] true]",
		results([]any{tube("s0 s4 s7 s10 s13 t0 t4 t7 t10 t13")}, true), results([]any{tube("t10 s2")}, true),
		"[[build s0] true]", "[[{1 1 0 90000 {0 0} 0 0 0}] true]", "[[75729 build s4\n72552 push 0 0 89000\n49184 grout 5 6 7\n] true]",
		"[[[{2 0 0 0 {1 4} 0 0 0} {1 1 0 90000 {0 0} 0 0 0}]] true]", "[[[{2 0 0 0 {1 4} 0 0 0} {1 1 0 90000 {0 0} 0 0 0}] 36] true]",
		results([]any{replayed}, true), "[[ok\n3\n7 7\n0 0\ns2\n] true]",
	)
	expect(t, "all functions of driving", callsOfDriving(t, x), want)
}

// numbersOf returns the numbers that the functions of drives receive, but not those in lists of other lengths.
func numbersOf(x *driving) []*int64 {
	list := []*int64{
		&x.a.Start.Side, &x.a.Start.Height, &x.a.Start.Yaw, &x.a.Start.Pitch, &x.a.Curves[0].Rings, &x.a.Curves[1].Bend,
		&x.g.Densities[0], &x.g.Holes[1].Ring, &x.g.Holes[0].Tops[1], &x.allowance, &x.limit,
		&x.width, &x.count, &x.x.Kind, &x.list[0].Kind, &x.list[1].Weight,
	}
	list = append(list, fieldsOf(&x.x)...)
	for _, d := range []*impl.Drive{&x.d, &x.e} {
		m := &d.Machine
		list = append(list,
			&d.Axis.Start.Side, &d.Axis.Start.Height, &d.Axis.Start.Yaw, &d.Axis.Start.Pitch, &d.Axis.Curves[0].Rings, &d.Axis.Curves[0].Bend, &d.Axis.Curves[0].Rise,
			&d.Ground.Densities[0], &d.Ground.Holes[0].Ring, &d.Ground.Holes[0].Tops[0], &d.Allowance, &d.Limit,
			&m.Shield.Side, &m.Shield.Height, &m.Shield.Yaw, &m.Shield.Pitch, &m.Tube.Side, &m.Tube.Height, &m.Tube.Yaw, &m.Tube.Pitch, &m.Advance,
			&d.Built[0].Kind, &d.Built[0].Key, &d.Built[1].Kind, &d.Built[1].Key, &d.Balance[0], &d.Balance[2],
			&d.Grouts[0].Ring, &d.Grouts[0].Void, &d.Grouts[0].Injected, &d.Grouts[0].Shrink,
		)
	}
	return list
}

func TestDrivingReturnsForAllNumbers(t *testing.T) {
	first := goodDriving()
	for field := range numbersOf(&first) {
		for _, n := range append(strangeNumbers(), 4, 5, 12, 13, -12, -13, 15, 16, 100, 101, 400, 401, 2400, 2401, 100000, 100001, 1000000, 1000001, -1000000, -1000001) {
			x := goodDriving()
			*numbersOf(&x)[field] = n
			expect(t, "the same calls again", callsOfDriving(t, x), callsOfDriving(t, x))
		}
	}
	for _, n := range strangeNumbers() {
		x := goodDriving()
		for _, target := range numbersOf(&x) {
			*target = n
		}
		expect(t, "the same calls again", callsOfDriving(t, x), callsOfDriving(t, x))
	}
}

func TestDrivingReturnsForLongLists(t *testing.T) {
	x := goodDriving()
	x.d = noDrive
	none := callsOfDriving(t, x)
	for _, change := range []func(d *impl.Drive){
		func(d *impl.Drive) { d.Axis.Curves = slices.Repeat(d.Axis.Curves, many) },
		func(d *impl.Drive) { d.Ground.Densities = repeated(1, many) },
		func(d *impl.Drive) { d.Ground.Holes = make([]impl.Hole, many) },
		func(d *impl.Drive) { d.Ground.Holes[0].Tops = repeated(0, many) },
		func(d *impl.Drive) { d.Built = slices.Repeat(tube("s0 s2"), many) },
		func(d *impl.Drive) { d.Balance = repeated(math.MaxInt64, many) },
		func(d *impl.Drive) { d.Built, d.Balance = slices.Repeat(tube("s0 s2"), many), repeated(0, 2*many) },
		func(d *impl.Drive) { d.Grouts = make([]impl.Grout, many) },
	} {
		x = goodDriving()
		change(&x.d)
		expect(t, "a drive with a list that is too long", callsOfDriving(t, x), none)
	}
	x = goodDriving()
	x.list = slices.Repeat(x.list[:1], 61)
	long := callsOfDriving(t, x)
	x.list = slices.Repeat(x.list, many)
	expect(t, "too many deeds", callsOfDriving(t, x), long)
}

func TestDrivingReturnsForAllTexts(t *testing.T) {
	texts := append(nearlyDeeds(), nearlyLines()...)
	texts = append(texts, docJournal, docJournal+docJournal, strings.Repeat("\n", many), strings.Repeat(docJournal, many), strings.Repeat("rings\n", many))
	for _, s := range texts {
		x := goodDriving()
		x.text, x.journal, x.script = s, s, s
		// An equal text at another place.
		y := goodDriving()
		y.text, y.journal, y.script = string([]byte(s)), string([]byte(s)), string([]byte(s))
		expect(t, fmt.Sprintf("the same calls with %.60q", s), callsOfDriving(t, x), callsOfDriving(t, y))
	}
}

// guardedDrive returns a copy of a drive whose lists have unused capacity, and a function that fails the test if one of them has changed.
func guardedDrive(t *testing.T, d impl.Drive) (impl.Drive, func(call string)) {
	var checks []func(string)
	add := func(check func(string)) { checks = append(checks, check) }
	g := d
	var check func(string)
	g.Axis.Curves, check = guardedBy(t, d.Axis.Curves, impl.Curve{Rings: guard})
	add(check)
	g.Ground, check = guardedGround(t, d.Ground)
	add(check)
	g.Built, check = guardedBy(t, d.Built, impl.Ring{Kind: guard})
	add(check)
	g.Balance, check = guarded(t, d.Balance)
	add(check)
	g.Grouts, check = guardedBy(t, d.Grouts, impl.Grout{Ring: guard})
	add(check)
	return g, func(call string) {
		t.Helper()
		for _, check := range checks {
			check(call)
		}
	}
}

func TestDrivingLeavesItsArgumentsAsTheyWere(t *testing.T) {
	list := sampleDrives()[:60]
	for _, c := range changesOfDrive {
		d := twoRings()
		c.change(&d)
		list = append(list, d)
	}
	for _, d := range list {
		for _, script := range []string{"push 0 0 90000\nbuild s0\ngrout 1 2 3\nsettled 0\nnext 2\n", "build s2\ngrout 5 5 5\npush 0 0 1\nbuild s0\n", "grout 0 0 0\n"} {
			steps := deeds(strings.ReplaceAll(strings.Split(script, "settled")[0], "\n", ";"))
			x := goodDriving()
			x.a, x.g, x.d, x.e, x.list, x.x = d.Axis, d.Ground, d, d, steps, steps[0]
			x.journal, x.script = journalOf(steps), script
			want := callsOfDriving(t, x)
			var checks [3]func(string)
			x.d, checks[0] = guardedDrive(t, d)
			x.e, checks[1] = guardedDrive(t, d)
			x.list, checks[2] = guardedBy(t, steps, impl.Deed{Kind: guard})
			x.a, x.g = x.e.Axis, x.e.Ground
			expect(t, "functions of drives with unused capacity", callsOfDriving(t, x), want)
			for _, check := range checks {
				check(fmt.Sprintf("a function of %v", d))
			}
		}
	}
}

func TestNilAndEmptyListsOfDrivesAreTheSame(t *testing.T) {
	x := goodDriving()
	x.d = straight(3, "")
	x.e, x.list = x.d, nil
	none := callsOfDriving(t, x)
	x.d.Built, x.d.Balance, x.d.Grouts = []impl.Ring{}, []int64{}, []impl.Grout{}
	x.list = []impl.Deed{}
	expect(t, "a drive with empty lists", callsOfDriving(t, x), none)
	if !impl.SameDrive(x.d, x.e) || !impl.SameDrive(x.e, x.d) {
		t.Error("nil and empty lists are not the same")
	}
	x = goodDriving()
	x.d = noDrive
	none = callsOfDriving(t, x)
	x.d = impl.Drive{Axis: impl.Axis{Curves: []impl.Curve{}}, Ground: impl.Ground{Densities: []int64{}, Holes: []impl.Hole{}}, Built: []impl.Ring{}, Balance: []int64{}, Grouts: []impl.Grout{}}
	expect(t, "no drive with empty lists", callsOfDriving(t, x), none)
}

// spoilDrive overwrites all lists of a drive and their unused capacity, one after the other, and calls then after each of them.
func spoilDrive(d impl.Drive, then func(list string)) {
	spoil(d.Axis.Curves, impl.Curve{Rings: guard})
	then("Curves")
	spoil(d.Ground.Densities, guard)
	then("Densities")
	for i := range d.Ground.Holes {
		spoil(d.Ground.Holes[i].Tops, guard)
		then(fmt.Sprintf("the Tops of the hole %d", i))
	}
	spoil(d.Ground.Holes, impl.Hole{Ring: guard})
	then("Holes")
	spoil(d.Built, impl.Ring{Kind: guard})
	then("Built")
	spoil(d.Balance, guard)
	then("Balance")
	spoil(d.Grouts, impl.Grout{Ring: guard})
	then("Grouts")
}

// TestReturnedDrivesOwnTheirMemory spoils one list of a returned drive after the other.
func TestReturnedDrivesOwnTheirMemory(t *testing.T) {
	x := goodDriving()
	x.d.Ground = ground(twoClasses)
	pushed := straight(9, "push 0 0 92000;build s0")
	fresh := drive("0,0,3,-1;2:1,0;1:0,1", twoClasses, 5, 5)
	before := results(x, pushed, fresh)
	steps := deeds("push 0 0 90000;build s2;grout 1 2 3")
	for name, call := range map[string]func() (impl.Drive, bool){
		"NewDrive":        func() (impl.Drive, bool) { return impl.NewDrive(fresh.Axis, fresh.Ground, 5, 5) },
		"DoDeed, a push":  func() (impl.Drive, bool) { return impl.DoDeed(pushed, deed("push 1 1 90000")) },
		"DoDeed, a ring":  func() (impl.Drive, bool) { return impl.DoDeed(x.d, deed("build s0")) },
		"DoDeed, a grout": func() (impl.Drive, bool) { return impl.DoDeed(pushed, deed("grout 1 2 3")) },
		"DoDeeds":         func() (impl.Drive, bool) { d, _, ok := impl.DoDeeds(pushed, steps); return d, ok },
		"DoDeeds, no deed": func() (impl.Drive, bool) {
			d, _, ok := impl.DoDeeds(x.d, nil)
			return d, ok
		},
		"DoDeeds, the first of which cannot be done": func() (impl.Drive, bool) {
			d, _, ok := impl.DoDeeds(x.d, deeds("push 0 0 1"))
			return d, ok
		},
		"DoDeeds, the second of which cannot be done": func() (impl.Drive, bool) {
			d, _, ok := impl.DoDeeds(x.d, deeds("build s0;build s2"))
			return d, ok
		},
		"ReplayJournal":                   func() (impl.Drive, bool) { return impl.ReplayJournal(pushed, journalOf(steps)) },
		"ReplayJournal, an empty journal": func() (impl.Drive, bool) { return impl.ReplayJournal(x.d, "") },
	} {
		d, ok := call()
		want := results(d, ok)
		if !ok {
			t.Fatalf("%s fails", name)
		}
		other, _ := call()
		spoilDrive(d, func(list string) {
			again, ok := call()
			expect(t, name+" after its "+list+" were spoiled", results(again, ok), want)
			expect(t, "another drive of "+name+" after "+list+" were spoiled", results(other, ok), want)
		})
	}
	expect(t, "the arguments", results(x, pushed, fresh), before)
}

// TestListsOfReturnedDrivesAreNotShared does a deed in a drive whose ground has the same list in several places.
func TestListsOfReturnedDrivesAreNotShared(t *testing.T) {
	shared := repeated(3000, 1)
	first := straight(9, "push 0 0 92000;build s0")
	first.Ground = impl.Ground{Densities: shared, Holes: []impl.Hole{{Ring: 0, Tops: shared}, {Ring: 5, Tops: shared}}}
	for name, call := range map[string]func() (impl.Drive, bool){
		"NewDrive":         func() (impl.Drive, bool) { return impl.NewDrive(first.Axis, first.Ground, 0, 0) },
		"DoDeed":           func() (impl.Drive, bool) { return impl.DoDeed(first, deed("push 0 0 1")) },
		"DoDeeds, no deed": func() (impl.Drive, bool) { d, _, ok := impl.DoDeeds(first, nil); return d, ok },
	} {
		d, ok := call()
		spoil(d.Ground.Holes[0].Tops, guard)
		expect(t, name+" after the first tops were spoiled", results(d.Ground.Holes[1], d.Ground.Densities, ok), "[{5 [3000]} [3000] true]")
		spoil(d.Ground.Densities, guard)
		expect(t, name+" after the densities were spoiled", results(d.Ground.Holes[1]), "[{5 [3000]}]")
	}
	expect(t, "the argument", results(shared), "[[3000]]")
}

func TestDrivingReturnsNewLists(t *testing.T) {
	x := goodDriving()
	before := results(x)
	expectNewList(t, "SettledNow", guard, func() ([]int64, bool) { return impl.SettledNow(x.d, 0) })
	fill := impl.Ring{Kind: guard}
	expectNewList(t, "BuildableRings", fill, func() ([]impl.Ring, bool) { return impl.BuildableRings(x.d) })
	expectNewList(t, "NextRings", fill, func() ([]impl.Ring, bool) { return impl.NextRings(x.d, 2) })
	none := impl.Deed{Kind: guard}
	expectNewList(t, "ReadJournal", none, func() ([]impl.Deed, bool) { return impl.ReadJournal(docJournal) })
	expectNewList(t, "RecoverJournal", none, func() ([]impl.Deed, bool) {
		list, _, ok := impl.RecoverJournal(docJournal + "x")
		return list, ok
	})
	expect(t, "the arguments", results(x), before)
}
