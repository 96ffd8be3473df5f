package tests

import (
	"fmt"
	"slices"
	"testing"

	"loop.example/g01099/impl"
)

// noQuestions are the results of all questions of a drive that is not valid.
const noQuestions = "[0 0 false 0 false 0 0 false [] false [] false [] false]"

// questionsOf shows the results of all questions of a drive.
func questionsOf(d impl.Drive, width, count int64) string {
	side, height, one := impl.OffAxis(d)
	expected, two := impl.ExpectedNow(d)
	begin, raised, three := impl.AlarmNow(d)
	settled, four := impl.SettledNow(d, width)
	buildable, five := impl.BuildableRings(d)
	next, six := impl.NextRings(d, count)
	return results(side, height, one, expected, two, begin, raised, three, settled, four, buildable, five, next, six)
}

func TestQuestionsRequireAValidDrive(t *testing.T) {
	for _, c := range changesOfDrive {
		d := twoRings()
		c.change(&d)
		if c.isValid {
			continue
		}
		expect(t, "questions of a drive with "+c.name, questionsOf(d, 0, 1), noQuestions)
		for s, isValid := range edgeDeeds {
			if isValid {
				next, one := impl.DoDeed(d, deed(s))
				again, done, two := impl.DoDeeds(d, deeds(s))
				last, three := impl.ReplayJournal(d, journalOf(deeds(s)))
				output, four := impl.RunScript(d, s+"\n")
				got := results(next, one, again, done, two, last, three, output, four)
				expect(t, s+" in a drive with "+c.name, got, results(noDrive, false, noDrive, 0, false, noDrive, false, "", false))
			}
		}
		none, one := impl.ReplayJournal(d, "")
		output, two := impl.RunScript(d, "")
		first, done, three := impl.DoDeeds(d, nil)
		expect(t, "nothing in a drive with "+c.name, results(none, one, output, two, first, done, three), results(noDrive, false, "", false, noDrive, 0, false))
	}
	expect(t, "questions of no drive", questionsOf(noDrive, 0, 1), noQuestions)
}

// offAxis returns how far the tube of a valid drive is from the axis.
func offAxis(d impl.Drive) (int64, int64) {
	aim := posesOf(d.Axis)[len(d.Built)]
	return d.Machine.Tube.Side - aim.Side, d.Machine.Tube.Height - aim.Height
}

func TestOffAxis(t *testing.T) {
	bent := drive("10,20,1,2;2:3,0;2:0,-1", oneClass, 0, 0)
	for _, c := range []struct {
		name string
		d    impl.Drive
		want string
	}{
		{"before the first ring", bent, "[0 0 true]"},
		{"between the first push and its ring", after(bent, "push 1 1 0"), "[0 0 true]"},
		{"behind one ring", after(bent, "push 1 1 0;build s0"), "[0 0 true]"},
		{"between the second push and its ring", after(bent, "push 1 1 0;build s0;push 0 0 0"), "[0 0 true]"},
		{"behind two straight rings", after(bent, "push 1 1 0;build s0;push 0 0 0;build s2"), "[-3 0 true]"},
		{"behind three straight rings", after(bent, "push 1 1 0;build s0;push 0 0 0;build s2;push 0 0 0;build s0"), "[-9 0 true]"},
		{"behind the last ring", after(bent, "push 1 1 0;build s0;push 0 0 0;build s2;push 0 0 0;build s0;push 0 0 0;build s2"), "[-15 1 true]"},
		{"beside a straight axis", after(straight(3, ""), "push 0 0 0;build t2;push 0 0 0;build s0"), "[7 7 true]"},
		{"behind a straight axis", after(straight(2, ""), "push 0 0 0;build t11;push 0 0 0;build s9"), "[-4 -9 true]"},
	} {
		side, height, ok := impl.OffAxis(c.d)
		expect(t, "OffAxis "+c.name, results(side, height, ok), c.want)
	}
	away := 0
	for _, d := range sampleDrives() {
		side, height := offAxis(d)
		if side != 0 && height != 0 {
			away++
		}
		x, y, ok := impl.OffAxis(d)
		expect(t, "OffAxis of "+shownDrive(d), results(x, y, ok), results(side, height, true))
	}
	if away < 100 {
		t.Errorf("only %d drives are away from their axes", away)
	}
}

// expectedOf returns what is expected of the next push of a valid drive, if the axis goes on.
func expectedOf(d impl.Drive) (int64, bool) {
	pushes := int64(len(d.Balance))
	if pushes+1 >= int64(len(posesOf(d.Axis))) {
		return 0, false
	}
	return weightAt(d.Ground, pushes, d.Machine.Shield.Height), true
}

func TestExpectedNow(t *testing.T) {
	lowered := drive("0,0,0,0;60:0,0", twoClasses, 0, 0)
	for _, c := range []struct {
		name string
		d    impl.Drive
		want string
	}{
		{"in one class", straight(1, ""), "[90000 true]"},
		{"when everything has been pushed", straight(1, "push 0 0 0"), "[0 false]"},
		{"when everything has been built", straight(1, straightRings(1)), "[0 false]"},
		{"when one push is left", straight(2, "push 0 0 0"), "[90000 true]"},
		{"when one push is left, behind the ring", straight(2, straightRings(1)), "[90000 true]"},
		{"when 60 rings have been built", straight(60, straightRings(60)), "[0 false]"},
		{"when 59 rings have been built", straight(60, straightRings(59)), "[90000 true]"},
		{"mostly below the border", lowered, "[101205 true]"},
		{"with the border below the middle", after(lowered, straightRings(30)), "[92130 true]"},
		{"with the border below the middle, during a push", after(lowered, straightRings(29)+";push 0 0 0"), "[92130 true]"},
		{"above the border", after(lowered, straightRings(59)), "[90000 true]"},
	} {
		n, ok := impl.ExpectedNow(c.d)
		expect(t, "ExpectedNow "+c.name, results(n, ok), c.want)
	}
	counts := map[bool]int{}
	for _, d := range sampleDrives() {
		want, isLeft := expectedOf(d)
		counts[isLeft]++
		n, ok := impl.ExpectedNow(d)
		expect(t, "ExpectedNow of "+shownDrive(d), results(n, ok), results(want, isLeft))
	}
	if counts[true] < 50 || counts[false] < 50 {
		t.Errorf("drives with a push that is left: %v", counts)
	}
}

func TestAlarmNow(t *testing.T) {
	for s, want := range map[string]string{
		"": "[0 0 false]",
		// The allowance is 500 and the limit 1000.
		"91500":                   "[0 0 false]",
		"91501":                   "[0 0 true]",
		"91000,91000":             "[0 0 false]",
		"91000,91001":             "[0 1 true]",
		"91000,91000,91000":       "[0 2 true]",
		"90500,91501":             "[1 1 true]",
		"90501,91500":             "[0 1 true]",
		"90000,91500,91500":       "[1 2 true]",
		"90000,91500,90500,90500": "[0 0 false]",
		"90000,91500,90500,90501": "[1 3 true]",
		"92000,90000,90000,90000": "[0 0 true]",
		"90000,90000,90000,92000": "[3 3 true]",
		"0,1000000,0,0":           "[1 1 true]",
		"90000,90000":             "[0 0 false]",
		"0,0,0,0":                 "[0 0 false]",
	} {
		d := straight(4, "")
		d.Balance = []int64{}
		if want != "" && s != "" {
			for i, weight := range numbers(s) {
				d = after(d, fmt.Sprintf("push 0 0 %d", weight))
				// An alarm is raised at once, between the push and its ring.
				if i+1 < len(numbers(s)) {
					d = after(d, fmt.Sprintf("build s%d", i%2*2))
				}
			}
		}
		begin, raised, ok := impl.AlarmNow(d)
		expect(t, "AlarmNow behind "+s, results(begin, raised, ok), want)
		if len(d.Balance) > 0 {
			d = after(d, fmt.Sprintf("build s%d", (len(d.Balance)-1)%2*2))
			begin, raised, ok = impl.AlarmNow(d)
			expect(t, "AlarmNow and its ring behind "+s, results(begin, raised, ok), want)
		}
	}
	raised := 0
	for _, d := range sampleDrives() {
		want := firstAlarm(d.Balance, d.Allowance, d.Limit)
		first, last, ok := impl.AlarmNow(d)
		expect(t, "AlarmNow of "+shownDrive(d), results(first, last, ok), want)
		if ok {
			raised++
		}
	}
	if raised < 50 || raised > 250 {
		t.Errorf("there are %d alarms", raised)
	}
}

// lossesBehind returns the losses behind the rings of a valid drive, and whether all their troughs are below the points.
func lossesBehind(d impl.Drive, width int64) ([]impl.Loss, bool) {
	var list []impl.Loss
	for _, g := range d.Grouts {
		list = append(list, impl.Loss{Station: g.Ring, Volume: lossOf(g), Width: width})
	}
	return list, width >= 0 && width <= 5 && lossesAreValid(list)
}

func TestSettledNow(t *testing.T) {
	none := repeated(0, 24)
	one := straight(60, "push 0 0 0;build s0;grout 100 90 10")
	late := straight(60, straightRings(24)+";grout 100 90 10")
	later := straight(60, straightRings(25)+";grout 100 90 10")
	early := straight(60, straightRings(6)+";grout 64 0 0")
	for _, c := range []struct {
		name  string
		d     impl.Drive
		width int64
		want  string
	}{
		{"without grout", straight(1, ""), 0, results(none, true)},
		{"without grout and with the greatest width", straight(60, straightRings(60)), 5, results(none, true)},
		{"without grout and with a greater width", straight(60, straightRings(60)), 6, "[[] false]"},
		{"without grout and with the width -1", straight(1, ""), -1, "[[] false]"},
		{"with grout", one, 0, results(append([]int64{19}, none[1:]...), true)},
		{"with a trough in front of the points", one, 1, "[[] false]"},
		{"with the width -1", one, -1, "[[] false]"},
		{"behind the last of the points", late, 0, results(append(slices.Clone(none[1:]), 19), true)},
		{"behind the points", later, 0, "[[] false]"},
		{"with a wide trough", early, 1, "[[0 0 0 0 16 32 16 0 0 0 0 0 0 0 0 0 0 0 0 0 0 0 0 0] true]"},
		{"with the greatest width", early, 5, results(settlementsOf(losses("@5 64l/5")), true)},
		{"with a greater width", early, 6, "[[] false]"},
	} {
		settled, ok := impl.SettledNow(c.d, c.width)
		expect(t, "SettledNow "+c.name, results(settled, ok), c.want)
	}
	counts := map[bool]int{}
	for _, d := range sampleDrives() {
		for width := int64(-1); width < 7; width++ {
			var want []int64
			list, isAbove := lossesBehind(d, width)
			if isAbove {
				want = settlementsOf(list)
				counts[len(list) > 0]++
			}
			settled, ok := impl.SettledNow(d, width)
			expect(t, fmt.Sprintf("SettledNow with the width %d of %s", width, shownDrive(d)), results(settled, ok), results(want, isAbove))
		}
	}
	if counts[true] < 100 || counts[false] < 100 {
		t.Errorf("surfaces that have settled: %v", counts)
	}
}

func TestBuildableRings(t *testing.T) {
	bent := straight(3, "push 5 3 0")
	// The gaps and strokes allow for all rings here, so that only joints matter.
	wide := straight(3, "push 0 0 0")
	// The strokes behind the ring are too short for a great turn.
	short := straight(3, straightRings(1)+";push 0 0 0")
	short.Machine.Advance = 1514
	for _, c := range []struct {
		name, want string
		d          impl.Drive
	}{
		{"before the first push", "", straight(3, "")},
		{"before a push", "", straight(3, straightRings(2))},
		{"behind the last ring", "", straight(3, straightRings(3))},
		{"for the first ring", tubeText(allRings()), wide},
		{"for the second ring", "s2 s5 s8 s11 s14 t2 t5 t8 t11 t14", straight(3, straightRings(1)+";push 0 0 0")},
		{"behind the key 3", "s1 s5 s8 s11 s14 t1 t5 t8 t11 t14", straight(3, "push 0 0 0;build s3;push 0 0 0")},
		{"for the first ring, with a bend", tubeText(allRings()), bent},
		{"with short strokes", "s2 s5 s8 s11 s14 t2 t14", short},
	} {
		list, ok := impl.BuildableRings(c.d)
		expect(t, "BuildableRings "+c.name, results(tubeText(list), ok), results(c.want, true))
	}
}

// TestBuildableRingsOfManyDrives compares them with all rings that are built one by one.
func TestBuildableRingsOfManyDrives(t *testing.T) {
	counts := map[int]int{}
	list := sampleDrives()
	for i, d := range sampleDrives() {
		// With a short stroke, the machine refuses some rings that turn much.
		d.Machine.Advance = 1500 + int64(i%25)
		if driveIsValid(d) {
			list = append(list, d)
		}
	}
	for _, d := range list {
		var fitting, byDeeds []impl.Ring
		for _, r := range allRings() {
			x := impl.Deed{Kind: 2, Ring: r}
			if _, ok := doneOf(d, x); ok {
				fitting = append(fitting, r)
			}
			if _, ok := impl.DoDeed(d, x); ok {
				byDeeds = append(byDeeds, r)
			}
		}
		counts[len(fitting)]++
		got, ok := impl.BuildableRings(d)
		expect(t, "BuildableRings of "+shownDrive(d), results(got, ok, byDeeds), results(fitting, true, fitting))
	}
	if len(counts) < 8 || counts[0] < 50 {
		t.Errorf("drives with some buildable rings: %v", counts)
	}
}

func TestNextRings(t *testing.T) {
	bent := drive("0,0,0,0;5:7,-7", oneClass, 0, 0)
	for _, c := range []struct {
		name  string
		d     impl.Drive
		count int64
		want  string
	}{
		{"before the first ring", straight(3, ""), 1, "[s2 true]"},
		{"before the first ring, two", straight(3, ""), 2, "[s2 s0 true]"},
		{"before the first ring, three", straight(3, ""), 3, "[s2 s0 s2 true]"},
		{"more than the axis has", straight(3, ""), 4, "[ false]"},
		{"none", straight(5, ""), 0, "[ false]"},
		{"a negative number", straight(5, ""), -1, "[ false]"},
		{"the greatest number", straight(5, ""), 4, "[s2 s0 s2 s0 true]"},
		{"one more", straight(5, ""), 5, "[ false]"},
		{"during a push", straight(3, "push 0 0 0"), 1, "[s2 true]"},
		{"behind one ring", straight(3, "push 0 0 0;build s3"), 1, "[s1 true]"},
		{"behind one ring, two", straight(3, "push 0 0 0;build s3"), 2, "[s1 s3 true]"},
		{"behind one ring, more than are left", straight(3, "push 0 0 0;build s3"), 3, "[ false]"},
		{"behind one ring, during a push", straight(3, "push 0 0 0;build s3;push 0 0 0"), 2, "[s1 s3 true]"},
		{"behind the last but one ring", straight(3, straightRings(2)), 1, "[s0 true]"},
		{"behind the last ring", straight(3, straightRings(3)), 1, "[ false]"},
		{"along a curve", bent, 2, "[t14 s0 true]"},
		{"behind a ring beside the axis", straight(5, "push 0 0 0;build t0"), 2, "[t8 s0 true]"},
	} {
		list, ok := impl.NextRings(c.d, c.count)
		expect(t, "NextRings "+c.name, results(tubeText(list), ok), c.want)
	}
}

// TestNextRingsOfManyDrives tries all tubes behind the last ring.
func TestNextRingsOfManyDrives(t *testing.T) {
	counts := map[bool]int{}
	for i, d := range sampleDrives() {
		before := ring("s0")
		if len(d.Built) > 0 {
			before = d.Built[len(d.Built)-1]
		}
		for count := int64(1); count < 4; count++ {
			if count == 3 && i%10 > 0 {
				continue
			}
			var best []impl.Ring
			if int(count)+len(d.Built) < len(posesOf(d.Axis)) {
				best, _, _ = bestTube(d.Axis, int64(len(d.Built)), d.Machine.Tube, before, count)
			}
			counts[len(best) > 0]++
			list, ok := impl.NextRings(d, count)
			expect(t, fmt.Sprintf("%d NextRings of %s", count, shownDrive(d)), results(list, ok), results(best, len(best) > 0))
		}
	}
	if counts[true] < 100 || counts[false] < 100 {
		t.Errorf("drives with next rings: %v", counts)
	}
}
