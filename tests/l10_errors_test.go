package tests

import (
	"fmt"
	"math/big"
	"math/rand"
	"slices"
	"testing"

	"loop.example/g01099/impl"
)

// lessSight returns a survey without a sight.
func lessSight(v impl.Survey, k int) impl.Survey {
	v.Sights = slices.Delete(slices.Clone(v.Sights), k, k+1)
	return v
}

// agree reports whether all sights of a connected survey agree with the heights that some of them lead to.
func agree(v impl.Survey) bool {
	heights := surveyed(v.Sights, 0)
	return !slices.ContainsFunc(v.Sights, func(s impl.Sight) bool { return s.Rise != heights[s.To]-heights[s.From] })
}

// blundersIn are the sights without which a connected survey whose sights do not agree is connected, and its sights agree.
func blundersIn(v impl.Survey) []int64 {
	var list []int64
	for k := range v.Sights {
		if less := lessSight(v, k); !agree(v) && isConnected(less) && agree(less) {
			list = append(list, int64(k))
		}
	}
	return list
}

// suspicions are, for each sight whose redundancy is not 0, Weight times the square of the residual divided by the redundancy; for the others it is nil.
func suspicions(v impl.Survey) []*big.Rat {
	list, residuals := redundanciesOf(v), residualsWith(v, meanHeights(v))
	for k, redundancy := range list {
		list[k] = nil
		if redundancy.Sign() > 0 {
			square := new(big.Rat).Mul(residuals[k], residuals[k])
			square.Mul(square, big.NewRat(v.Sights[k].Weight, 1))
			list[k] = square.Quo(square, redundancy)
		}
	}
	return list
}

// greatestOf are the indices of the greatest one of some numbers, if it is not 0.
func greatestOf(list []*big.Rat) []int64 {
	greatest := new(big.Rat)
	for _, x := range list {
		if x != nil && x.Cmp(greatest) > 0 {
			greatest = x
		}
	}
	var indices []int64
	for i, x := range list {
		if x != nil && x.Sign() > 0 && x.Cmp(greatest) == 0 {
			indices = append(indices, int64(i))
		}
	}
	return indices
}

// firstOf shows the first one of some sights, or that there is none.
func firstOf(list []int64) string {
	if len(list) == 0 {
		return results(0, false)
	}
	return results(list[0], true)
}

func TestErrorsInSurveys(t *testing.T) {
	// The unchecked sights, the suspect and the blunder.
	for s, want := range map[string]string{
		"2 0>1=10*1":                                         "[0] 0 false 0 false",
		"2 0>1=10*1 0>1=10*2":                                "[] 0 false 0 false",
		"2 0>1=10*1 1>0=-13*2":                               "[] 0 true 0 true",
		"2 0>1=10*1 1>0=-10*1 0>1=13*3":                      "[] 2 true 2 true",
		"2 0>1=1*1 0>1=2*1 0>1=1*1":                          "[] 1 true 1 true",
		"2 0>1=1*1 0>1=2*1 0>1=2*1":                          "[] 0 true 0 true",
		"2 0>1=1*1 0>1=2*1 0>1=3*1":                          "[] 0 true 0 false",
		"2 0>1=2*1 0>1=1*1 0>1=3*1":                          "[] 1 true 0 false",
		"2 0>1=1*1 0>1=2*1 0>1=4*1":                          "[] 2 true 0 false",
		"2 0>1=0*3 0>1=10*3 0>1=6*1":                         "[] 0 true 0 false",
		"3 0>1=10*1 1>2=5*2":                                 "[0 1] 0 false 0 false",
		"3 0>1=10*1 1>2=5*1 1>2=5*1":                         "[0] 0 false 0 false",
		"3 0>1=10*1 1>2=5*1 1>2=6*1":                         "[0] 1 true 1 true",
		"3 1>2=5*1 0>1=10*3 1>2=6*3":                         "[1] 0 true 0 true",
		"3 1>2=5*1 1>2=6*3 0>1=10*3":                         "[2] 0 true 0 true",
		"3 0>1=10*1 1>2=5*1 0>2=18*1":                        "[] 0 true 0 true",
		"3 0>1=10*1 1>2=5*1 0>2=15*1":                        "[] 0 false 0 false",
		"3 0>1=10*1 1>2=5*1 0>2=15*1 0>1=14*1":               "[] 3 true 3 true",
		"3 0>1=14*1 1>2=5*1 0>2=15*1 0>1=10*1":               "[] 0 true 0 true",
		"3 0>1=10*1 1>2=5*1 0>2=16*1 0>1=10*1":               "[] 1 true 1 true",
		"3 0>1=1*1 0>1=2*1 1>2=1*1 1>2=2*1":                  "[] 0 true 0 false",
		"3 0>1=1*1 0>1=2*1 1>2=1*1 1>2=3*1":                  "[] 2 true 0 false",
		"3 0>1=1*1 0>1=2*1 1>2=1*3 1>2=2*3":                  "[] 2 true 0 false",
		"4 0>1=1*1 1>2=1*1 2>3=1*1":                          "[0 1 2] 0 false 0 false",
		"4 0>1=1*1 2>3=1*1 1>2=1*1 3>2=0*1":                  "[0 2] 1 true 1 true",
		"4 0>1=1*1 1>2=1*1 2>3=1*1 3>0=-2*1":                 "[] 0 true 0 true",
		"4 0>1=1*1 1>2=1*1 2>0=-2*1 2>3=7*1":                 "[3] 0 false 0 false",
		"4 2>3=7*1 0>1=1*1 1>2=1*1 2>0=-3*1":                 "[0] 1 true 1 true",
		"5 0>1=1*1 1>2=1*1 2>0=-2*1 2>3=7*1 3>4=1*1":         "[3 4] 0 false 0 false",
		"5 0>1=1*1 1>2=1*1 2>0=-2*1 2>3=7*1 3>4=1*1 4>2=9*1": "[] 3 true 3 true",
		"5 4>3=1*3 3>2=2*3 2>1=3*3 1>0=4*3":                  "[0 1 2 3] 0 false 0 false",
	} {
		v := survey(s)
		unchecked, one := impl.UncheckedSights(v)
		suspect, two := impl.SuspectOf(v)
		blunder, three := impl.BlunderIn(v)
		expect(t, "errors in "+s, results(one, results(unchecked, suspect, two, blunder, three)), results(true, "["+want+"]"))
	}
}

func TestUncheckedSights(t *testing.T) {
	counts := map[bool]int{}
	for _, v := range append(connectedSurveys(), smallSurveys()...) {
		if !isConnected(v) {
			continue
		}
		name := "UncheckedSights(" + surveyText(v) + ")"
		var want []int64
		_, redundancies, _ := impl.RedundanciesOf(v)
		_, residuals, _ := impl.ResidualsOf(v)
		for k := range v.Sights {
			isUnchecked := !isConnected(lessSight(v, k))
			if isUnchecked {
				want = append(want, int64(k))
			}
			counts[isUnchecked]++
			if isUnchecked != (redundancies[k] == 0) || isUnchecked && residuals[k] != 0 {
				t.Errorf("%s: the sight %d has the redundancy %d and the residual %d", name, k, redundancies[k], residuals[k])
			}
		}
		got, ok := impl.UncheckedSights(v)
		expect(t, name, results(got, ok), results(want, true))
	}
	if counts[true] < 100 || counts[false] < 100 {
		t.Errorf("sights that are unchecked, and that are not: %v", counts)
	}
}

func TestSuspectsOfManySurveys(t *testing.T) {
	counts := map[string]int{}
	for i, v := range append(connectedSurveys(), smallSurveys()...) {
		if !isConnected(v) || len(v.Sights) > 6 && i%3 > 0 {
			continue
		}
		name := "SuspectOf(" + surveyText(v) + ")"
		list := suspicions(v)
		want := greatestOf(list)
		suspect, ok := impl.SuspectOf(v)
		expect(t, name, results(suspect, ok), firstOf(want))
		counts[results(len(want) > 0, len(want) > 1, suspect > 0)]++
		if !ok {
			continue
		}
		// Without a sight, the least sum is less by exactly its suspicion.
		sum := squaresWith(v, meanHeights(v))
		for k, x := range list {
			if x == nil {
				continue
			}
			less := lessSight(v, k)
			want := new(big.Rat).Sub(sum, squaresWith(less, meanHeights(less)))
			expect(t, fmt.Sprintf("the suspicion of the sight %d of %s", k, surveyText(v)), x.String(), want.String())
		}
	}
	for _, kind := range []string{"[false false false]", "[true false false]", "[true false true]", "[true true false]", "[true true true]"} {
		if counts[kind] < 20 {
			t.Errorf("surveys with a suspect, with several, and with one that is not the first sight: %v", counts)
		}
	}
}

func TestBlundersInManySurveys(t *testing.T) {
	counts := map[int]int{}
	for _, v := range append(sampleSurveys(), smallSurveys()...) {
		if !isConnected(v) {
			continue
		}
		name := surveyText(v)
		want := blundersIn(v)
		blunder, ok := impl.BlunderIn(v)
		expect(t, "BlunderIn("+name+")", results(blunder, ok), firstOf(want))
		counts[min(len(want), 3)]++
		// Nothing makes the sum less than 0, so that the blunder is the suspect, too.
		if suspect, found := impl.SuspectOf(v); ok {
			expect(t, "SuspectOf("+name+")", results(suspect, found), firstOf(want))
		}
	}
	for number := range 4 {
		if counts[number] < 20 {
			t.Errorf("surveys with no blunder, with one, two and more: %v", counts)
		}
	}
}

// TestSingleErrorsAreFound makes one sight of a survey wrong, and then another one.
func TestSingleErrorsAreFound(t *testing.T) {
	random := rand.New(rand.NewSource(103))
	counts := map[string]int{}
	for range 3000 {
		v, heights := exactSurvey(random)
		if !isConnected(v) {
			continue
		}
		unit, adjusted, ok := impl.AdjustSurvey(v)
		expect(t, "AdjustSurvey("+surveyText(v)+")", results(unit, adjusted, ok), results(1, heights, true))
		k := random.Intn(len(v.Sights))
		v.Sights[k].Rise += random.Int63n(20) + 1
		name := surveyText(v)
		blunder, found := impl.BlunderIn(v)
		if !isConnected(lessSight(v, k)) {
			counts["unchecked"]++
			expect(t, "BlunderIn("+name+")", results(blunder, found), "[0 false]")
			continue
		}
		if !found || blunder > int64(k) {
			t.Errorf("BlunderIn(%s): got %d %v, and the sight %d is wrong", name, blunder, found, k)
		}
		counts[results("first", blunder == int64(k))]++
		less, _ := impl.DropSight(v, int64(k))
		unit, adjusted, ok = impl.AdjustSurvey(less)
		expect(t, "AdjustSurvey("+surveyText(less)+")", results(unit, adjusted, ok), results(1, heights, true))
		// A sight that two others between the same points contradict is the only wrong one.
		for range 8 - len(v.Sights) {
			s := v.Sights[k]
			v.Sights = append(v.Sights, impl.Sight{From: s.To, To: s.From, Rise: heights[s.From] - heights[s.To], Weight: random.Int63n(3) + 1})
		}
		blunder, found = impl.BlunderIn(v)
		if len(v.Sights) > len(less.Sights)+2 {
			expect(t, "BlunderIn("+surveyText(v)+")", results(blunder, found), results(k, true))
		}
	}
	if counts["unchecked"] < 100 || counts["[first true]"] < 100 || counts["[first false]"] < 100 {
		t.Errorf("wrong sights that are unchecked, and that are the first one without which the others agree: %v", counts)
	}
}
