package tests

import (
	"math/rand"
	"slices"
	"strings"
	"testing"

	"loop.example/g01099/impl"
)

// readBack checks that each value has the text that the document says, that this text is read back to the value, and that no other value of the list has it.
func readBack[T any](t *testing.T, name string, list []T, reference func(T) string, text func(T) (string, bool), read func(string) (T, bool)) {
	t.Helper()
	values := map[string]string{}
	for _, x := range list {
		want := reference(x)
		got, one := text(x)
		expect(t, "the text of "+name, results(got, one), results(want, true))
		back, two := read(got)
		expect(t, name+" read from "+got, results(back, two), results(x, true))
		again, three := text(back)
		expect(t, "the text of what was read from "+got, results(again, three), results(got, true))
		if other, isKnown := values[got]; isKnown && other != results(x) {
			t.Errorf("%s and %s have the text %s", other, results(x), got)
		}
		values[got] = results(x)
	}
	if len(values) < 200 {
		t.Errorf("there are only %d texts of %s", len(values), name)
	}
}

func TestAxesAreReadBack(t *testing.T) {
	list := sampleAxes()
	for _, d := range sampleDrives() {
		list = append(list, d.Axis)
		for n := int64(1); ; n++ {
			first, rest, ok := impl.SplitAxis(d.Axis, n)
			if !ok {
				break
			}
			list = append(list, first, rest)
		}
	}
	curves := map[int]bool{}
	for _, a := range list {
		curves[len(a.Curves)] = true
	}
	if len(curves) != 8 {
		t.Errorf("axes have %d numbers of curves", len(curves))
	}
	readBack(t, "an axis", list, axisText, impl.AxisText, impl.ReadAxis)
}

func TestMachinesAreReadBack(t *testing.T) {
	list := sampleMachines()
	for _, d := range sampleDrives() {
		list = append(list, d.Machine)
		if mirror, ok := impl.MirrorMachine(d.Machine); ok {
			list = append(list, mirror)
		}
	}
	readBack(t, "a machine", list, machineText, impl.MachineText, impl.ReadMachine)
}

func TestGroundsAreReadBack(t *testing.T) {
	list := sampleGrounds()
	for _, g := range sampleGrounds() {
		for k := range int64(len(g.Holes)) {
			if less, ok := impl.DropHole(g, k); ok {
				list = append(list, less)
			}
		}
		if more, ok := impl.AddHole(g, impl.Hole{Ring: 33, Tops: repeated(-100000, len(g.Densities))}); ok {
			list = append(list, more)
		}
	}
	shapes := map[[2]int]bool{}
	for _, g := range list {
		shapes[[2]int{len(g.Densities), len(g.Holes)}] = true
	}
	if len(shapes) != 24 {
		t.Errorf("grounds have %d shapes", len(shapes))
	}
	readBack(t, "a ground", list, groundText, impl.GroundText, impl.ReadGround)
}

func TestHeadsAreReadBack(t *testing.T) {
	random := rand.New(rand.NewSource(125))
	list := sampleHeads()
	for cutters := 1; cutters <= 5; cutters++ {
		for _, rings := range []int{0, 1, 2, 59, 60} {
			for safe := range 9 {
				h := randomHead(random, cutters, rings, safe)
				if len(h.Safe) != min(safe, rings) {
					t.Errorf("%s has %d Safe rings", headText(h), len(h.Safe))
				}
				list = append(list, h)
			}
		}
	}
	list = slices.DeleteFunc(list, func(h impl.Head) bool { return !headIsValid(h) })
	readBack(t, "a head", list, headText, impl.HeadText, impl.ReadHead)
}

func TestPlansAreReadBack(t *testing.T) {
	random := rand.New(rand.NewSource(126))
	stops := map[int]bool{}
	for _, h := range sampleHeads() {
		for range 5 {
			x := randomPlan(random, h)
			stops[len(x)] = true
			want := planText(x)
			got, one := impl.PlanText(h, x)
			back, two := impl.ReadPlan(h, want)
			expect(t, "the plan "+want+" of "+headText(h), results(got, one, back, two), results(want, true, x, true))
		}
	}
	if len(stops) < 8 {
		t.Errorf("plans have %d numbers of stops", len(stops))
	}
}

func TestSurveysAreReadBack(t *testing.T) {
	list := append(sampleSurveys(), smallSurveys()...)
	for _, v := range sampleSurveys() {
		for k := range int64(len(v.Sights)) {
			if less, ok := impl.DropSight(v, k); ok {
				list = append(list, less)
			}
		}
	}
	shapes := map[[2]int]bool{}
	for _, v := range list {
		shapes[[2]int{int(v.Points), len(v.Sights)}] = true
	}
	if len(shapes) != 36 {
		t.Errorf("surveys have %d shapes", len(shapes))
	}
	readBack(t, "a survey", list, surveyText, impl.SurveyText, impl.ReadSurvey)
}

// TestNoTextIsReadAsSomethingElse reads texts with something in front or behind, which are read as nothing.
func TestNoTextIsReadAsSomethingElse(t *testing.T) {
	isRead := func(s string) string {
		_, one := impl.ReadAxis(s)
		_, two := impl.ReadMachine(s)
		_, three := impl.ReadGround(s)
		_, four := impl.ReadHead(s)
		_, five := impl.ReadPlan(head("1/9|1,1|1|0,0"), s)
		_, six := impl.ReadSurvey(s)
		return strings.Join(strings.Fields(strings.Trim(results(one, two, three, four, five, six), "[]")), " ")
	}
	for s, want := range map[string]string{
		"0,0,3,-1;2:1,0;1:0,1":       "true false false false false false",
		"0,0,5,1/-7,0,2,1/600":       "false true false false false false",
		"1800,2100|0:5,1|10:5,-1":    "false false true false false false",
		"2/20,1/20|5,5,5,5|1,2|10,3": "false false false true false false",
		"1:0":                        "false false false false true false",
		"3 0>1=10*1 1>2=5*1":         "false false false false false true",
		"":                           "false false false false true false",
		"-":                          "false false false false false false",
	} {
		expect(t, "what is read from "+s, isRead(s), want)
		for _, with := range []string{" ", "\n", "\x00", "-", "x", "\xff"} {
			expect(t, "what is read from "+s+" with something in front", isRead(with+s), "false false false false false false")
			expect(t, "what is read from "+s+" with something behind", isRead(s+with), "false false false false false false")
		}
	}
}
