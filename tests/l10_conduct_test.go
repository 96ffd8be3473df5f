package tests

import (
	"fmt"
	"math"
	"slices"
	"strings"
	"testing"

	"loop.example/g01099/impl"
)

// measuring is what the functions of surveys receive.
type measuring struct {
	v       impl.Survey
	a, b, k int64
}

// goodMeasuring is one for which all functions succeed.
func goodMeasuring() measuring {
	return measuring{v: survey("4 0>1=10*1 1>2=5*1 0>2=15*1 0>1=14*1 3>2=7*2"), a: 1, b: 2, k: 3}
}

// callsOfMeasuring calls every function of surveys but ReadSurvey.
func callsOfMeasuring(t *testing.T, x measuring) string {
	t.Helper()
	tree, one := impl.TreeSights(x.v)
	heights, two := impl.TreeHeights(x.v)
	loops, three := impl.LoopErrors(x.v)
	unit, adjusted, four := impl.AdjustSurvey(x.v)
	low, residuals, five := impl.ResidualsOf(x.v)
	square, root, six := impl.SquareSumOf(x.v)
	rise, under, seven := impl.RiseBetween(x.v, x.a, x.b)
	cofactor, below, eight := impl.CofactorOf(x.v, x.a, x.b)
	part, redundancies, nine := impl.RedundanciesOf(x.v)
	unchecked, ten := impl.UncheckedSights(x.v)
	suspect, eleven := impl.SuspectOf(x.v)
	blunder, twelve := impl.BlunderIn(x.v)
	less, thirteen := impl.DropSight(x.v, x.k)
	text, fourteen := impl.SurveyText(x.v)
	return results(
		impl.ValidSurvey(x.v), impl.IsConnected(x.v), outcome(t, "TreeSights", one, tree), outcome(t, "TreeHeights", two, heights), outcome(t, "LoopErrors", three, loops),
		outcome(t, "AdjustSurvey", four, unit, adjusted), outcome(t, "ResidualsOf", five, low, residuals), outcome(t, "SquareSumOf", six, square, root),
		outcome(t, "RiseBetween", seven, rise, under), outcome(t, "CofactorOf", eight, cofactor, below), outcome(t, "RedundanciesOf", nine, part, redundancies),
		outcome(t, "UncheckedSights", ten, unchecked), outcome(t, "SuspectOf", eleven, suspect), outcome(t, "BlunderIn", twelve, blunder),
		outcome(t, "DropSight", thirteen, less), outcome(t, "SurveyText", fourteen, text),
	)
}

func TestAllFunctionsOfMeasuringSucceed(t *testing.T) {
	want := results(
		true, true, "[[[0 1 4]] true]", "[[[0 10 15 8]] true]", "[[[0 0 0 4 0]] true]",
		"[[5 [0 58 79 44]] true]", "[[5 [-8 4 -4 12 0]] true]", "[[48 5] true]",
		"[[21 5] true]", "[[3 5] true]", "[[5 [3 2 2 3 0]] true]",
		"[[[4]] true]", "[[3] true]", "[[3] true]",
		"[[{4 [{0 1 10 1} {1 2 5 1} {0 2 15 1} {3 2 7 2}]}] true]", "[[4 0>1=10*1 1>2=5*1 0>2=15*1 0>1=14*1 3>2=7*2] true]",
	)
	expect(t, "all functions of measuring", callsOfMeasuring(t, goodMeasuring()), want)
}

func TestMeasuringReturnsForAllNumbers(t *testing.T) {
	for _, n := range append(strangeNumbers(), 4, 5, 6, 7, 8, 9, -4, -5, 100, 101, -100, -101, math.MinInt64+2, math.MaxInt64-2) {
		for field := range 12 {
			x := goodMeasuring()
			for i, target := range []*int64{
				&x.v.Points, &x.v.Sights[0].From, &x.v.Sights[0].To, &x.v.Sights[0].Rise, &x.v.Sights[0].Weight,
				&x.v.Sights[4].From, &x.v.Sights[4].To, &x.v.Sights[4].Rise, &x.v.Sights[4].Weight, &x.a, &x.b, &x.k,
			} {
				if i == field {
					*target = n
				}
			}
			expect(t, "the same calls again", callsOfMeasuring(t, x), callsOfMeasuring(t, x))
		}
		for _, points := range []int64{2, 5, n} {
			x := measuring{v: impl.Survey{Points: points, Sights: []impl.Sight{{From: n, To: n, Rise: n, Weight: n}, {From: 0, To: n, Rise: n, Weight: n}}}, a: n, b: n, k: n}
			expect(t, "the same calls again", callsOfMeasuring(t, x), callsOfMeasuring(t, x))
			x.v.Sights = nil
			expect(t, "the same calls again", callsOfMeasuring(t, x), callsOfMeasuring(t, x))
		}
	}
}

func TestMeasuringReturnsForLongLists(t *testing.T) {
	x := goodMeasuring()
	x.v.Sights = slices.Repeat(x.v.Sights[:1], 9)
	x.v.Points = 2
	long := callsOfMeasuring(t, x)
	for _, sights := range [][]impl.Sight{make([]impl.Sight, 200000), slices.Repeat(x.v.Sights, 20000), slices.Repeat([]impl.Sight{{From: math.MinInt64, To: math.MaxInt64, Rise: math.MinInt64, Weight: math.MaxInt64}}, 200000)} {
		for _, points := range []int64{0, 2, 5, 200000, math.MaxInt64} {
			x.v = impl.Survey{Points: points, Sights: sights}
			expect(t, "a survey with too many sights", callsOfMeasuring(t, x), long)
		}
	}
}

// TestGreatSurveys has the greatest numbers that surveys can have.
func TestGreatSurveys(t *testing.T) {
	for s, want := range map[string]string{
		"5 0>1=100*3 1>2=100*3 2>3=100*3 3>4=100*3 4>0=100*3":                                  "[1 [0 0 0 0 0] 150000 1 0]",
		"5 0>1=-100*3 1>2=-100*3 2>3=-100*3 3>4=-100*3 0>4=100*3":                              "[1 [0 0 0 0 0] 150000 1 0]",
		"2" + strings.Repeat(" 0>1=100*3 1>0=100*3", 4):                                        "[1 [0 0] 240000 1 0]",
		"5 0>1=100*3 1>2=-100*3 2>3=100*3 3>4=-100*3 4>0=100*3 0>2=100*3 1>3=-100*3 2>4=100*3": "[3 [0 360 -20 200 -40] 104000 1 5]",
		"5 0>1=99*3 1>2=97*2 2>3=-89*1 3>4=83*3 4>0=79*2 0>2=-73*1 1>3=71*3 2>4=-67*1":         "[667 [0 -1792 36576 -4706 6411] 65121958 667 0]",
	} {
		v := survey(s)
		unit, heights, one := impl.AdjustSurvey(v)
		square, root, two := impl.SquareSumOf(v)
		suspect, three := impl.SuspectOf(v)
		expect(t, s, results(results(unit, heights, square, root, suspect), one, two, three), results(want, true, true, true))
		checkLeastSquares(t, v)
		expect(t, "SuspectOf("+s+")", results(suspect, three), firstOf(greatestOf(suspicions(v))))
	}
}

func TestMeasuringLeavesItsArgumentsAsTheyWere(t *testing.T) {
	for i, v := range append(sampleSurveys()[:500], badSurveys()...) {
		x := measuring{v: v, a: int64(i % 3), b: int64(i / 3 % 4), k: int64(i % 5)}
		want := callsOfMeasuring(t, x)
		sights, check := guardedBy(t, v.Sights, impl.Sight{From: guard, To: guard, Rise: guard, Weight: guard})
		x.v.Sights = sights
		expect(t, "a function of a list with unused capacity", callsOfMeasuring(t, x), want)
		check("a function of " + surveyText(v))
	}
}

func TestReadSurveyReturnsForAllTexts(t *testing.T) {
	for _, s := range append(nearlySurveys(), "2", "5 0>4=-100*3 4>3=100*1") {
		v, ok := impl.ReadSurvey(s)
		again, _ := impl.ReadSurvey(string([]byte(s)))
		expect(t, fmt.Sprintf("ReadSurvey(%.60q) again", s), outcome(t, "ReadSurvey", ok, v), results([]any{again}, ok))
	}
}

func TestNilAndEmptyListsOfSightsAreTheSame(t *testing.T) {
	x := goodMeasuring()
	for points := range int64(7) {
		x.v = impl.Survey{Points: points}
		none := callsOfMeasuring(t, x)
		x.v.Sights = []impl.Sight{}
		expect(t, "a survey without sights", callsOfMeasuring(t, x), none)
	}
}

func TestMeasuringReturnsNewLists(t *testing.T) {
	x := goodMeasuring()
	before := results(x)
	for name, call := range map[string]func() ([]int64, bool){
		"TreeSights":      func() ([]int64, bool) { return impl.TreeSights(x.v) },
		"TreeHeights":     func() ([]int64, bool) { return impl.TreeHeights(x.v) },
		"LoopErrors":      func() ([]int64, bool) { return impl.LoopErrors(x.v) },
		"AdjustSurvey":    func() ([]int64, bool) { _, list, ok := impl.AdjustSurvey(x.v); return list, ok },
		"ResidualsOf":     func() ([]int64, bool) { _, list, ok := impl.ResidualsOf(x.v); return list, ok },
		"RedundanciesOf":  func() ([]int64, bool) { _, list, ok := impl.RedundanciesOf(x.v); return list, ok },
		"UncheckedSights": func() ([]int64, bool) { return impl.UncheckedSights(x.v) },
	} {
		expectNewList(t, name, guard, call)
	}
	fill := impl.Sight{From: guard, To: guard, Rise: guard, Weight: guard}
	for k := range x.v.Sights {
		expectNewList(t, "DropSight", fill, func() ([]impl.Sight, bool) {
			less, ok := impl.DropSight(x.v, int64(k))
			return less.Sights, ok
		})
	}
	expectNewList(t, "ReadSurvey", fill, func() ([]impl.Sight, bool) {
		v, ok := impl.ReadSurvey("3 0>1=10*1 1>2=5*1")
		return v.Sights, ok
	})
	expect(t, "the argument", results(x), before)
}
