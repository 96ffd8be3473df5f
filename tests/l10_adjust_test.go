package tests

import (
	"fmt"
	"math/big"
	"math/bits"
	"slices"
	"testing"

	"loop.example/g01099/impl"
)

// spanning is a set of sights that connect all points without loops, with the product of their weights and the heights that follow from them.
type spanning struct {
	sights  []int64
	weight  int64
	heights map[int64]int64
}

// spanningOf tries all sets of sights.
func spanningOf(v impl.Survey) []spanning {
	var list []spanning
	for set := range int64(1) << len(v.Sights) {
		if int64(bits.OnesCount64(uint64(set))) != v.Points-1 {
			continue
		}
		x := spanning{sights: someOf(set, upTo(len(v.Sights))), weight: 1}
		var sights []impl.Sight
		for _, k := range x.sights {
			sights = append(sights, v.Sights[k])
			x.weight *= v.Sights[k].Weight
		}
		x.heights = surveyed(sights, 0)
		if int64(len(x.heights)) == v.Points {
			list = append(list, x)
		}
	}
	return list
}

// weightOf adds up the weights of those that are wanted.
func weightOf(list []spanning, wanted func(spanning) bool) int64 {
	weight := int64(0)
	for _, x := range list {
		if wanted(x) {
			weight += x.weight
		}
	}
	return weight
}

func all(spanning) bool { return true }

// meanHeights are the means of the heights that follow from all sets that connect all points without loops, with their weights; these are known to be the adjusted heights.
func meanHeights(v impl.Survey) []*big.Rat {
	list := spanningOf(v)
	means := make([]*big.Rat, v.Points)
	for point := range means {
		sum := int64(0)
		for _, x := range list {
			sum += x.weight * x.heights[int64(point)]
		}
		means[point] = big.NewRat(sum, weightOf(list, all))
	}
	return means
}

// partOfSets is the part of all these sets that has a sight between two points; it is the cofactor of these points if the sight is added with the weight 1, and the sets without it are the whole.
func partOfSets(v impl.Survey, a, b int64) *big.Rat {
	if a == b {
		return new(big.Rat)
	}
	added := int64(len(v.Sights))
	v.Sights = append(slices.Clone(v.Sights), impl.Sight{From: a, To: b, Weight: 1})
	list := spanningOf(v)
	with := weightOf(list, func(x spanning) bool { return slices.Contains(x.sights, added) })
	return big.NewRat(with, weightOf(list, all)-with)
}

// redundanciesOf are the parts of these sets that do without each sight.
func redundanciesOf(v impl.Survey) []*big.Rat {
	list := spanningOf(v)
	parts := make([]*big.Rat, len(v.Sights))
	for k := range parts {
		without := weightOf(list, func(x spanning) bool { return !slices.Contains(x.sights, int64(k)) })
		parts[k] = big.NewRat(without, weightOf(list, all))
	}
	return parts
}

// ratios are the rational numbers with a denominator.
func ratios(unit int64, list []int64) []*big.Rat {
	var all []*big.Rat
	for _, n := range list {
		all = append(all, big.NewRat(n, unit))
	}
	return all
}

// leastUnit tries one denominator after the other, and shows the least one for which all numbers are integers, and these.
func leastUnit(list []*big.Rat) string {
	unit := int64(1)
	for slices.ContainsFunc(list, func(x *big.Rat) bool { return unit%x.Denom().Int64() != 0 }) {
		unit++
	}
	var integers []int64
	for _, x := range list {
		integers = append(integers, x.Num().Int64()*(unit/x.Denom().Int64()))
	}
	return results(unit, integers, true)
}

// fraction shows a rational number as its numerator and its denominator in lowest terms.
func fraction(x *big.Rat) string { return results(x.Num(), x.Denom(), true) }

func differenceOf(list []*big.Rat, s impl.Sight) *big.Rat {
	return new(big.Rat).Sub(list[s.To], list[s.From])
}

// residualsWith are the residuals of all sights with some heights.
func residualsWith(v impl.Survey, heights []*big.Rat) []*big.Rat {
	var list []*big.Rat
	for _, s := range v.Sights {
		list = append(list, new(big.Rat).Sub(big.NewRat(s.Rise, 1), differenceOf(heights, s)))
	}
	return list
}

// squaresWith is the sum of weighted squares with some heights.
func squaresWith(v impl.Survey, heights []*big.Rat) *big.Rat {
	sum := new(big.Rat)
	for k, residual := range residualsWith(v, heights) {
		square := new(big.Rat).Mul(residual, residual)
		sum.Add(sum, square.Mul(square, big.NewRat(v.Sights[k].Weight, 1)))
	}
	return sum
}

// withStep adds a step to one of the heights.
func withStep(heights []*big.Rat, point int, step *big.Rat) []*big.Rat {
	list := slices.Clone(heights)
	list[point] = new(big.Rat).Add(list[point], step)
	return list
}

func TestAdjustedSurveys(t *testing.T) {
	for s, want := range map[string]string{
		"2 0>1=10*1":                                 "1 [0 10] 1 [0] 0 1 1 [0]",
		"2 0>1=0*3":                                  "1 [0 0] 1 [0] 0 1 1 [0]",
		"2 1>0=10*3":                                 "1 [0 -10] 1 [0] 0 1 1 [0]",
		"2 0>1=10*1 0>1=11*2":                        "3 [0 32] 3 [-2 1] 2 3 3 [2 1]",
		"2 0>1=-10*1 0>1=-11*2":                      "3 [0 -32] 3 [2 -1] 2 3 3 [2 1]",
		"2 0>1=1*2 0>1=2*2":                          "2 [0 3] 2 [-1 1] 1 1 2 [1 1]",
		"2 0>1=1*3 0>1=3*3":                          "1 [0 2] 1 [-1 1] 6 1 2 [1 1]",
		"2 0>1=3*1 1>0=3*1":                          "1 [0 0] 1 [3 3] 18 1 2 [1 1]",
		"2 0>1=1*1 1>0=2*1 0>1=0*2":                  "4 [0 -1] 4 [5 7 1] 19 4 4 [3 3 2]",
		"3 0>1=0*1 1>2=0*2 0>2=0*3":                  "1 [0 0 0] 1 [0 0 0] 0 1 11 [6 3 2]",
		"3 0>1=10*1 1>2=5*2":                         "1 [0 10 15] 1 [0 0] 0 1 1 [0 0]",
		"3 0>1=4*1 0>2=1*1 0>2=2*1":                  "2 [0 8 3] 2 [0 -1 1] 1 2 2 [0 1 1]",
		"3 0>1=1*1 0>1=2*1 0>2=-4*1":                 "2 [0 3 -8] 2 [-1 1 0] 1 2 2 [1 1 0]",
		"3 0>1=10*1 1>2=5*1 0>2=18*1":                "1 [0 11 17] 1 [-1 -1 1] 3 1 3 [1 1 1]",
		"3 0>1=10*1 1>2=5*1 2>0=-16*1":               "3 [0 31 47] 3 [-1 -1 -1] 1 3 3 [1 1 1]",
		"3 0>1=0*1 1>2=0*2 2>0=5*2":                  "4 [0 -10 -15] 4 [10 5 5] 25 2 4 [2 1 1]",
		"3 1>0=100*3 2>0=100*3 1>2=100*3":            "3 [0 -400 -200] 3 [-100 100 100] 10000 1 3 [1 1 1]",
		"4 0>1=2*1 1>2=2*1 2>3=2*1 3>0=2*1":          "1 [0 0 0 0] 1 [2 2 2 2] 16 1 4 [1 1 1 1]",
		"4 0>1=5*1 1>2=0*1 1>2=3*2 2>3=-7*3":         "1 [0 5 7 0] 1 [0 -2 1 0] 6 1 3 [0 2 1 0]",
		"5 0>4=7*2 4>3=-2*1 3>2=9*3 2>1=1*1":         "1 [0 15 14 5 7] 1 [0 0 0 0] 0 1 1 [0 0 0 0]",
		"5 0>1=1*1 0>2=2*1 0>3=3*1 0>4=4*1 4>0=-6*1": "1 [0 1 2 3 5] 1 [0 0 0 -1 -1] 2 1 2 [0 0 0 1 1]",
	} {
		v := survey(s)
		unit, heights, one := impl.AdjustSurvey(v)
		low, residuals, two := impl.ResidualsOf(v)
		square, root, three := impl.SquareSumOf(v)
		part, redundancies, four := impl.RedundanciesOf(v)
		got := results(unit, heights, low, residuals, square, root, part, redundancies)
		expect(t, "the adjusted heights of "+s, results(got, one, two, three, four), results("["+want+"]", true, true, true, true))
	}
}

func TestRiseBetween(t *testing.T) {
	for s, want := range map[string]string{
		"2 0>1=10*1|0 1": "10 1", "2 0>1=10*1|1 0": "-10 1", "2 0>1=10*1|0 0": "0 1", "2 0>1=10*1|1 1": "0 1", "2 0>1=10*1|0 2": "", "2 0>1=10*1|2 0": "", "2 0>1=10*1|-1 0": "", "2 0>1=10*1|0 -1": "", "2 0>1=10*1|2 2": "", "2 0>1=10*1|-1 -1": "",
		"3 0>1=4*1 0>2=1*1 0>2=2*1|0 1": "4 1", "3 0>1=4*1 0>2=1*1 0>2=2*1|0 2": "3 2", "3 0>1=4*1 0>2=1*1 0>2=2*1|1 2": "-5 2", "3 0>1=4*1 0>2=1*1 0>2=2*1|2 1": "5 2", "3 0>1=4*1 0>2=1*1 0>2=2*1|2 2": "0 1",
		"3 0>1=10*1 1>2=5*1 2>0=-16*1|0 2": "47 3", "3 0>1=10*1 1>2=5*1 2>0=-16*1|2 1": "-16 3", "2 0>1=1*2 0>1=2*2|1 0": "-3 2", "2 0>1=3*1 1>0=3*1|0 1": "0 1",
		"4 0>1=1*1 0>1=2*1 1>2=1*1 1>2=2*1 2>3=4*3|0 2": "3 1", "4 0>1=1*1 0>1=2*1 1>2=1*1 1>2=2*1 2>3=4*3|0 3": "7 1", "4 0>1=1*1 0>1=2*1 1>2=1*1 1>2=2*1 2>3=4*3|3 1": "-11 2", "4 0>1=1*1 2>3=1*1|0 1": "", "4 0>1=1*1|0 0": "",
		"5 0>1=100*1 1>2=100*1 2>3=100*1 3>4=100*1|4 0": "-400 1", "5 0>1=100*1 1>2=100*1 2>3=100*1 3>4=100*1|5 0": "", "5 0>1=100*1 1>2=100*1 2>3=100*1 3>4=100*1|4 3": "-100 1",
	} {
		expectBetween(t, "RiseBetween", impl.RiseBetween, s, want)
	}
}

func TestCofactorOf(t *testing.T) {
	for s, want := range map[string]string{
		"2 0>1=10*1|0 1": "1 1", "2 0>1=10*1|1 0": "1 1", "2 0>1=-9*3|0 1": "1 3", "2 0>1=10*1|0 0": "0 1", "2 0>1=10*1|1 1": "0 1", "2 0>1=10*1|0 2": "", "2 0>1=10*1|2 0": "", "2 0>1=10*1|-1 0": "", "2 0>1=10*1|0 -1": "", "2 0>1=10*1|2 2": "", "2 0>1=10*1|-1 -1": "",
		"2 0>1=1*2 0>1=2*2|1 0": "1 4", "2 0>1=1*2 1>0=2*1|1 0": "1 3", "3 0>1=0*1 1>2=0*1|0 2": "2 1", "3 0>1=0*1 1>2=0*2|0 2": "3 2", "3 0>1=0*1 1>2=0*2|1 2": "1 2", "3 0>1=0*2 1>2=0*2|2 0": "1 1", "3 0>1=0*1 0>2=0*3|2 1": "4 3",
		"3 0>1=10*1 1>2=5*1 0>2=18*1|0 1": "2 3", "3 0>1=10*1 1>2=5*1 0>2=18*1|2 1": "2 3", "3 0>1=10*1 1>2=5*1 0>2=18*1|2 2": "0 1", "3 0>1=0*1 1>2=0*2 0>2=0*3|0 1": "5 11", "3 0>1=0*1 1>2=0*2 0>2=0*3|2 1": "4 11", "3 0>1=0*1 1>2=0*2 0>2=0*3|2 0": "3 11",
		"4 0>1=1*1 0>1=2*1 1>2=1*1 1>2=2*1 2>3=4*3|0 2": "1 1", "4 0>1=1*1 0>1=2*1 1>2=1*1 1>2=2*1 2>3=4*3|0 3": "4 3", "4 0>1=1*1 2>3=1*1|0 1": "", "4 0>1=1*1|0 0": "", "4 0>1=1*1|3 3": "",
		"5 0>1=100*1 1>2=100*1 2>3=100*1 3>4=100*1|4 0": "4 1", "5 0>1=100*1 1>2=100*1 2>3=100*1 3>4=100*1|1 3": "2 1", "5 0>1=100*1 1>2=100*1 2>3=100*1 3>4=100*1|5 0": "", "5 0>1=100*1 1>2=100*1 2>3=100*1 3>4=100*1|4 5": "",
	} {
		expectBetween(t, "CofactorOf", impl.CofactorOf, s, want)
	}
}

// expectBetween calls a function of two points; its arguments are given as a survey, | and the points, and its results as two numbers, or as nothing if it fails.
func expectBetween(t *testing.T, name string, call func(impl.Survey, int64, int64) (int64, int64, bool), s, want string) {
	t.Helper()
	var a, b int64
	at := slices.Index([]byte(s), '|')
	if _, err := fmt.Sscan(s[at+1:], &a, &b); err != nil {
		t.Fatal(err)
	}
	number, under, ok := call(survey(s[:at]), a, b)
	if want == "" {
		expect(t, name+"("+s+")", results(number, under, ok), "[0 0 false]")
		return
	}
	expect(t, name+"("+s+")", results(number, under, ok), "["+want+" true]")
}

// checkLeastSquares compares the adjusted heights with others near to them, all of which must have a greater sum.
func checkLeastSquares(t *testing.T, v impl.Survey) {
	t.Helper()
	name := surveyText(v)
	unit, list, ok := impl.AdjustSurvey(v)
	heights := ratios(unit, list)
	if !ok || int64(len(list)) != v.Points || list[0] != 0 {
		t.Fatalf("AdjustSurvey(%s): got %d %v %v", name, unit, list, ok)
	}
	expect(t, "AdjustSurvey("+name+")", results(unit, list, ok), leastUnit(heights))
	sum := squaresWith(v, heights)
	// Steps that are much less than 1 / unit would show that the sum still falls.
	for _, step := range []*big.Rat{big.NewRat(1, 100*unit), big.NewRat(-1, 100*unit), big.NewRat(1, 2), big.NewRat(-7, 3)} {
		for point := 1; point < len(heights); point++ {
			if near := withStep(heights, point, step); squaresWith(v, near).Cmp(sum) <= 0 {
				t.Fatalf("AdjustSurvey(%s): got %v, but %v is as good", name, heights, near)
			}
		}
	}
	low, residuals, ok := impl.ResidualsOf(v)
	expect(t, "ResidualsOf("+name+")", results(low, residuals, ok), leastUnit(residualsWith(v, heights)))
	square, root, ok := impl.SquareSumOf(v)
	expect(t, "SquareSumOf("+name+")", results(square, root, ok), fraction(sum))
}

func TestAdjustedHeightsHaveTheLeastSum(t *testing.T) {
	for _, v := range connectedSurveys() {
		checkLeastSquares(t, v)
		unit, heights, ok := impl.AdjustSurvey(v)
		expect(t, "AdjustSurvey("+surveyText(v)+")", results(unit, heights, ok), leastUnit(meanHeights(v)))
	}
}

// TestAdjustedHeightsOfSmallSurveys compares them with all heights near to them that have small denominators.
func TestAdjustedHeightsOfSmallSurveys(t *testing.T) {
	for i, v := range smallSurveys() {
		if !isConnected(v) {
			continue
		}
		unit, list, ok := impl.AdjustSurvey(v)
		expect(t, "AdjustSurvey("+surveyText(v)+")", results(unit, list, ok), leastUnit(meanHeights(v)))
		if i%97 != 0 {
			continue
		}
		best, steps := squaresWith(v, ratios(unit, list)), int64(6)
		equal := 0
		for _, indices := range smallLists(upTo(int(9*steps)), int(v.Points)-1) {
			heights := []*big.Rat{new(big.Rat)}
			for _, i := range indices {
				heights = append(heights, big.NewRat(i-4*steps, steps))
			}
			if int64(len(heights)) < v.Points {
				continue
			}
			order := squaresWith(v, heights).Cmp(best)
			if order == 0 {
				equal++
			}
			if order < 0 || equal > 1 {
				t.Fatalf("AdjustSurvey(%s): got %d %v, but %v is as good", surveyText(v), unit, list, heights)
			}
		}
	}
}

// solved solves linear equations, whose right sides are in the last column.
func solved(rows [][]*big.Rat) []*big.Rat {
	for i := range rows {
		pivot := i + slices.IndexFunc(rows[i:], func(row []*big.Rat) bool { return row[i].Sign() != 0 })
		rows[i], rows[pivot] = rows[pivot], rows[i]
		for j := range rows {
			if j == i {
				continue
			}
			factor := new(big.Rat).Quo(rows[j][i], rows[i][i])
			for column, x := range rows[i] {
				rows[j][column] = new(big.Rat).Sub(rows[j][column], new(big.Rat).Mul(factor, x))
			}
		}
	}
	var list []*big.Rat
	for i, row := range rows {
		list = append(list, new(big.Rat).Quo(row[len(row)-1], row[i]))
	}
	return list
}

// productOf is the sum over all sights of Weight times (x(To) - x(From)) times (y(To) - y(From)).
func productOf(v impl.Survey, x, y []*big.Rat) *big.Rat {
	sum := new(big.Rat)
	for _, s := range v.Sights {
		product := new(big.Rat).Mul(differenceOf(x, s), differenceOf(y, s))
		sum.Add(sum, product.Mul(product, big.NewRat(s.Weight, 1)))
	}
	return sum
}

// oneAt are the numbers 0, but 1 for a point.
func oneAt(points int64, point int) []*big.Rat {
	list := ratios(1, make([]int64, points))
	list[point].SetInt64(1)
	return list
}

// numbersBetween are the numbers x of the definition of a cofactor, found by its equations for numbers y that are 0 but for one point.
func numbersBetween(v impl.Survey, a, b int64) []*big.Rat {
	var rows [][]*big.Rat
	for i := 1; i < int(v.Points); i++ {
		var row []*big.Rat
		for j := 1; j < int(v.Points); j++ {
			row = append(row, productOf(v, oneAt(v.Points, j), oneAt(v.Points, i)))
		}
		rows = append(rows, append(row, differenceOf(oneAt(v.Points, i), impl.Sight{From: a, To: b})))
	}
	return append([]*big.Rat{new(big.Rat)}, solved(rows)...)
}

func TestCofactorsAreThoseOfTheirDefinition(t *testing.T) {
	for i, v := range connectedSurveys() {
		if i%4 != 0 {
			continue
		}
		for a := range v.Points {
			for b := range v.Points {
				x := numbersBetween(v, a, b)
				y := ratios(7, []int64{0, 3, -5, 8, 11}[:v.Points])
				name := fmt.Sprintf("CofactorOf(%s, %d, %d)", surveyText(v), a, b)
				expect(t, "the numbers of "+name, productOf(v, x, y).String(), differenceOf(y, impl.Sight{From: a, To: b}).String())
				number, under, ok := impl.CofactorOf(v, a, b)
				expect(t, name, results(number, under, ok), fraction(differenceOf(x, impl.Sight{From: a, To: b})))
			}
		}
	}
}

func TestNumbersBetweenPoints(t *testing.T) {
	for i, v := range connectedSurveys() {
		if i%5 != 0 {
			continue
		}
		unit, list, _ := impl.AdjustSurvey(v)
		heights := ratios(unit, list)
		for a := int64(-1); a <= v.Points; a++ {
			for b := int64(-1); b <= v.Points; b++ {
				name := fmt.Sprintf("(%s, %d, %d)", surveyText(v), a, b)
				rise, under, one := impl.RiseBetween(v, a, b)
				cofactor, below, two := impl.CofactorOf(v, a, b)
				if !areFrom(0, v.Points-1, a, b) {
					expect(t, "RiseBetween and CofactorOf"+name, results(rise, under, one, cofactor, below, two), "[0 0 false 0 0 false]")
					continue
				}
				expect(t, "RiseBetween"+name, results(rise, under, one), fraction(differenceOf(heights, impl.Sight{From: a, To: b})))
				expect(t, "CofactorOf"+name, results(cofactor, below, two), fraction(partOfSets(v, a, b)))
			}
		}
	}
}

func TestRedundanciesAddUp(t *testing.T) {
	for _, v := range append(connectedSurveys(), smallSurveys()...) {
		if !isConnected(v) {
			continue
		}
		name := "RedundanciesOf(" + surveyText(v) + ")"
		unit, list, ok := impl.RedundanciesOf(v)
		expect(t, name, results(unit, list, ok), leastUnit(redundanciesOf(v)))
		expect(t, "the sum of "+name, results(sum(list)), results(unit*(int64(len(v.Sights))-v.Points+1)))
		for k, s := range v.Sights {
			cofactor, under, _ := impl.CofactorOf(v, s.From, s.To)
			if want := big.NewRat(under-s.Weight*cofactor, under); want.Cmp(big.NewRat(list[k], unit)) != 0 {
				t.Errorf("%s: got %d %v, and the sight %d has %v", name, unit, list, k, want)
			}
		}
	}
}

// TestSightsInTheOtherDirection turns a sight around, which changes the sign of its residual alone.
func TestSightsInTheOtherDirection(t *testing.T) {
	for i, v := range connectedSurveys() {
		k := i % len(v.Sights)
		s := v.Sights[k]
		turned := v
		turned.Sights = slices.Clone(v.Sights)
		turned.Sights[k] = impl.Sight{From: s.To, To: s.From, Rise: -s.Rise, Weight: s.Weight}
		unit, residuals, _ := impl.ResidualsOf(v)
		residuals[k] = -residuals[k]
		low, list, ok := impl.ResidualsOf(turned)
		expect(t, "ResidualsOf("+surveyText(turned)+")", results(low, list, ok), results(unit, residuals, true))
		same := func(v impl.Survey) string {
			heights, one := impl.TreeHeights(v)
			unit, adjusted, two := impl.AdjustSurvey(v)
			part, redundancies, three := impl.RedundanciesOf(v)
			return results(heights, one, unit, adjusted, two, part, redundancies, three)
		}
		expect(t, "the heights of "+surveyText(turned), same(turned), same(v))
	}
}
