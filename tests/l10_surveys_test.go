package tests

import (
	"fmt"
	"math"
	"math/rand"
	"regexp"
	"slices"
	"strings"
	"testing"

	"loop.example/g01099/impl"
)

// survey returns the survey with a text, whether or not it is valid.
func survey(s string) impl.Survey {
	words := strings.Fields(s)
	v := impl.Survey{Points: numbers(words[0])[0]}
	for _, word := range words[1:] {
		parts := strings.FieldsFunc(word, func(r rune) bool { return strings.ContainsRune(">=*", r) })
		list := numbers(strings.Join(parts, ","))
		v.Sights = append(v.Sights, impl.Sight{From: list[0], To: list[1], Rise: list[2], Weight: list[3]})
	}
	return v
}

// surveyText writes the text of any survey as the document says.
func surveyText(v impl.Survey) string {
	s := fmt.Sprint(v.Points)
	for _, x := range v.Sights {
		s += fmt.Sprintf(" %d>%d=%d*%d", x.From, x.To, x.Rise, x.Weight)
	}
	return s
}

func sightIsValid(points int64, s impl.Sight) bool {
	return areFrom(0, points-1, s.From, s.To) && s.From != s.To && areFrom(-100, 100, s.Rise) && areFrom(1, 3, s.Weight)
}

func surveyIsValid(v impl.Survey) bool {
	if v.Points < 2 || v.Points > 5 || len(v.Sights) > 8 {
		return false
	}
	return !slices.ContainsFunc(v.Sights, func(s impl.Sight) bool { return !sightIsValid(v.Points, s) })
}

// surveyed returns the heights above a point of all points that some sights lead to.
func surveyed(sights []impl.Sight, point int64) map[int64]int64 {
	heights := map[int64]int64{point: 0}
	for before := 0; before < len(heights); {
		before = len(heights)
		for _, s := range sights {
			from, one := heights[s.From]
			to, two := heights[s.To]
			if one && !two {
				heights[s.To] = from + s.Rise
			}
			if two && !one {
				heights[s.From] = to - s.Rise
			}
		}
	}
	return heights
}

func isConnected(v impl.Survey) bool {
	return surveyIsValid(v) && int64(len(surveyed(v.Sights, 0))) == v.Points
}

// randomSurvey returns a valid survey, most often one that is connected.
func randomSurvey(random *rand.Rand) impl.Survey {
	v := impl.Survey{Points: random.Int63n(4) + 2}
	most := []int64{0, 2, 20, 100}[random.Intn(4)]
	sights := random.Intn(9)
	for random.Intn(3) > 0 && int64(sights) < v.Points-1 {
		sights = random.Intn(9)
	}
	for range sights {
		from := random.Int63n(v.Points)
		v.Sights = append(v.Sights, impl.Sight{
			From: from, To: (from + 1 + random.Int63n(v.Points-1)) % v.Points, Rise: random.Int63n(2*most+1) - most, Weight: random.Int63n(3) + 1,
		})
	}
	return v
}

// exactSurvey returns a valid survey with at most 7 sights that agree with the heights that are returned, too.
func exactSurvey(random *rand.Rand) (impl.Survey, []int64) {
	v := randomSurvey(random)
	v.Sights = v.Sights[:min(len(v.Sights), 7)]
	heights := make([]int64, v.Points)
	for point := range heights[1:] {
		heights[point+1] = random.Int63n(61) - 30
	}
	for k, s := range v.Sights {
		v.Sights[k].Rise = heights[s.To] - heights[s.From]
	}
	return v, heights
}

// sampleSurveys are valid surveys with all numbers of points and sights, connected or not; several of them agree but for one or two sights.
func sampleSurveys() []impl.Survey {
	random := rand.New(rand.NewSource(101))
	var list []impl.Survey
	for range 700 {
		v, _ := exactSurvey(random)
		for range min(random.Intn(3), len(v.Sights)) {
			k := random.Intn(len(v.Sights))
			v.Sights[k].Rise += random.Int63n(9) - 4
		}
		list = append(list, randomSurvey(random), v)
	}
	return list
}

// smallSurveys are all surveys of 2 or 3 points with few sights and few different numbers.
func smallSurveys() []impl.Survey {
	var list []impl.Survey
	for _, x := range []struct {
		points int64
		most   int
		rises  []int64
	}{{2, 3, []int64{-1, 0, 1, 3}}, {3, 3, []int64{0, 1}}} {
		var sights []impl.Sight
		for from := range x.points {
			for to := range x.points {
				for _, rise := range x.rises {
					for _, weight := range []int64{1, 2} {
						if from != to {
							sights = append(sights, impl.Sight{From: from, To: to, Rise: rise, Weight: weight})
						}
					}
				}
			}
		}
		for _, indices := range smallLists(upTo(len(sights)), x.most) {
			v := impl.Survey{Points: x.points}
			for _, i := range indices {
				v.Sights = append(v.Sights, sights[i])
			}
			list = append(list, v)
		}
	}
	return list
}

// connectedSurveys are the sample surveys that are connected.
func connectedSurveys() []impl.Survey {
	return slices.DeleteFunc(sampleSurveys(), func(v impl.Survey) bool { return !isConnected(v) })
}

// fullRow has as many sights as allowed between two points.
const fullRow = "0>1=0*1 1>0=1*2 0>1=2*3 1>0=3*1 0>1=4*2 1>0=5*3 0>1=6*1 1>0=7*2"

// edgeSurveys tells which surveys at the limits are valid, and of these which are connected.
var edgeSurveys = map[string][]bool{
	"0": {false, false}, "1": {false, false}, "2": {true, false}, "5": {true, false}, "6": {false, false}, "-1": {false, false}, "-2": {false, false},
	"1 0>0=1*1": {false, false}, "2 0>1=1*1": {true, true}, "2 1>0=1*1": {true, true}, "2 " + fullRow: {true, true}, "2 " + fullRow + " 0>1=0*1": {false, false},
	"3 " + fullRow: {true, false}, "6 0>1=1*1 1>2=1*1 2>3=1*1 3>4=1*1 4>5=1*1": {false, false},
	"5 0>1=1*1 1>2=1*1 2>3=1*1 3>4=1*1": {true, true}, "5 4>3=1*1 2>1=1*1 3>2=1*1 1>0=1*1": {true, true}, "5 0>1=1*1 0>2=1*1 0>3=1*1 0>4=1*1": {true, true}, "5 1>4=1*1 4>2=1*1 3>4=1*1 4>0=1*1": {true, true},
	"2 -1>1=1*1": {false, false}, "2 0>-1=1*1": {false, false}, "2 2>1=1*1": {false, false}, "2 0>2=1*1": {false, false}, "5 -1>4=1*1": {false, false}, "5 0>4=1*1": {true, false}, "5 4>0=1*1": {true, false}, "5 0>5=1*1": {false, false}, "5 5>0=1*1": {false, false},
	"2 0>0=1*1": {false, false}, "2 1>1=1*1": {false, false}, "5 4>4=1*1": {false, false}, "3 0>1=1*1 1>2=1*1 2>2=1*1": {false, false},
	"2 0>1=-100*1": {true, true}, "2 0>1=100*1": {true, true}, "2 0>1=-101*1": {false, false}, "2 0>1=101*1": {false, false}, "2 0>1=0*1": {true, true},
	"2 0>1=1*0": {false, false}, "2 0>1=1*3": {true, true}, "2 0>1=1*4": {false, false}, "2 0>1=1*-1": {false, false}, "2 0>1=1*1 0>1=1*4": {false, false}, "2 0>1=1*1 0>1=101*1": {false, false}, "2 0>1=1*0 0>1=1*1": {false, false},
	"2 0>1=1*1 0>1=1*1": {true, true}, "2 0>1=1*1 1>0=-1*1": {true, true}, "3 0>1=1*1": {true, false}, "3 1>2=1*1": {true, false}, "3 2>1=1*1 1>2=1*1": {true, false},
	"4 0>1=1*1 2>3=1*1": {true, false}, "4 0>1=1*1 2>3=1*1 1>0=1*1 3>2=1*1": {true, false}, "4 1>2=1*1 2>3=1*1 3>1=1*1": {true, false}, "5 1>2=1*1 2>3=1*1 3>4=1*1 4>1=1*1 1>3=1*1 2>4=1*1 1>4=1*1 2>1=1*1": {true, false},
	"5 0>1=1*1 1>2=1*1 2>3=1*1 3>0=1*1 0>2=1*1 1>3=1*1 2>0=1*1 3>1=1*1": {true, false}, "5 0>1=1*1 2>3=1*1 3>4=1*1 4>2=1*1": {true, false}, "5 0>1=1*1 1>2=1*1 3>4=1*1 2>3=1*1": {true, true}, "4 3>2=1*1 1>0=1*1 0>3=1*1": {true, true},
}

// badSurveys are surveys that are not valid.
func badSurveys() []impl.Survey {
	list := []impl.Survey{{}, {Points: math.MinInt64}, {Points: math.MaxInt64, Sights: []impl.Sight{{From: 0, To: 1, Rise: 1, Weight: 1}}}, {Points: math.MinInt64, Sights: []impl.Sight{{From: 0, To: 1, Rise: 1, Weight: 1}}}}
	for s, is := range edgeSurveys {
		if !is[0] {
			list = append(list, survey(s))
		}
	}
	return list
}

func TestLimitsOfSurveys(t *testing.T) {
	expect(t, "limits", results(impl.MaxPoints, impl.MaxSights, impl.MaxSightRise, impl.MaxSightWeight), "[5 8 100 3]")
}

func TestValidAndConnectedSurveys(t *testing.T) {
	for s, is := range edgeSurveys {
		v := survey(s)
		expect(t, "ValidSurvey and IsConnected of "+s, results(impl.ValidSurvey(v), impl.IsConnected(v)), results(is[0], is[1]))
	}
	random := rand.New(rand.NewSource(102))
	counts := map[string]int{}
	for _, v := range append(sampleSurveys(), smallSurveys()...) {
		if len(v.Sights) > 0 && random.Intn(2) == 0 {
			v.Sights = slices.Clone(v.Sights)
			s := &v.Sights[random.Intn(len(v.Sights))]
			*[]*int64{&s.From, &s.To, &s.Rise, &s.Weight}[random.Intn(4)] = []int64{-1, 0, 1, 2, 3, 4, 5, -100, -101, 100, 101}[random.Intn(11)]
		}
		want := results(surveyIsValid(v), isConnected(v))
		counts[want]++
		expect(t, "ValidSurvey and IsConnected of "+surveyText(v), results(impl.ValidSurvey(v), impl.IsConnected(v)), want)
	}
	if len(counts) != 3 || counts["[true true]"] < 100 || counts["[true false]"] < 100 || counts["[false false]"] < 100 {
		t.Errorf("surveys that are valid and connected: %v", counts)
	}
}

// surveyResults shows the results of all functions that require a connected survey.
func surveyResults(v impl.Survey) string {
	tree, one := impl.TreeSights(v)
	heights, two := impl.TreeHeights(v)
	loops, three := impl.LoopErrors(v)
	unit, adjusted, four := impl.AdjustSurvey(v)
	low, residuals, five := impl.ResidualsOf(v)
	square, root, six := impl.SquareSumOf(v)
	rise, under, seven := impl.RiseBetween(v, 0, 1)
	cofactor, below, eight := impl.CofactorOf(v, 0, 1)
	parts, redundancies, nine := impl.RedundanciesOf(v)
	unchecked, ten := impl.UncheckedSights(v)
	suspect, eleven := impl.SuspectOf(v)
	blunder, twelve := impl.BlunderIn(v)
	return results(
		tree, one, heights, two, loops, three, unit, adjusted, four, low, residuals, five, square, root, six,
		rise, under, seven, cofactor, below, eight, parts, redundancies, nine, unchecked, ten, suspect, eleven, blunder, twelve,
	)
}

func TestSurveysThatAreNotValid(t *testing.T) {
	for _, v := range badSurveys() {
		name := surveyText(v)
		less, one := impl.DropSight(v, 0)
		text, two := impl.SurveyText(v)
		expect(t, name, results(impl.ValidSurvey(v), impl.IsConnected(v), less, one, text, two), "[false false {0 []} false  false]")
		expect(t, "functions of "+name, surveyResults(v), noResults)
		read, ok := impl.ReadSurvey(name)
		expect(t, "ReadSurvey("+name+")", results(read, ok), "[{0 []} false]")
	}
}

// noResults are those of a survey that is not connected.
const noResults = "[[] false [] false [] false 0 [] false 0 [] false 0 0 false 0 0 false 0 0 false 0 [] false [] false 0 false 0 false]"

func TestSurveysThatAreNotConnected(t *testing.T) {
	count := 0
	list := append(sampleSurveys(), smallSurveys()...)
	for s := range edgeSurveys {
		list = append(list, survey(s))
	}
	for _, v := range list {
		if surveyIsValid(v) && !isConnected(v) {
			count++
			expect(t, "functions of "+surveyText(v), surveyResults(v), noResults)
			text, ok := impl.SurveyText(v)
			expect(t, "SurveyText", results(text, ok), results(surveyText(v), true))
		}
	}
	if count < 100 {
		t.Errorf("there are only %d surveys that are not connected", count)
	}
}

// treeOf returns the sights that join points that those before them do not, and the heights that follow from them.
func treeOf(v impl.Survey) ([]int64, []int64) {
	var chosen []int64
	var sights []impl.Sight
	for k, s := range v.Sights {
		if _, joined := surveyed(sights, s.From)[s.To]; !joined {
			chosen, sights = append(chosen, int64(k)), append(sights, s)
		}
	}
	heights := make([]int64, v.Points)
	for point, height := range surveyed(sights, 0) {
		heights[point] = height
	}
	return chosen, heights
}

func TestTreesOfSurveys(t *testing.T) {
	for s, want := range map[string]string{
		"2 0>1=5*1":                                                  "[[0] [0 5] [0]]",
		"2 1>0=5*1":                                                  "[[0] [0 -5] [0]]",
		"2 0>1=5*1 1>0=-7*3 0>1=4*2":                                 "[[0] [0 5] [0 -2 -1]]",
		"2 1>0=-7*3 0>1=5*1 1>0=-7*1":                                "[[0] [0 7] [0 -2 0]]",
		"3 0>1=10*1 1>2=5*1 0>2=18*1":                                "[[0 1] [0 10 15] [0 0 3]]",
		"3 0>2=18*1 1>2=5*1 0>1=10*1":                                "[[0 1] [0 13 18] [0 0 -3]]",
		"3 2>1=1*1 1>2=2*1 0>2=3*1":                                  "[[0 2] [0 4 3] [0 3 0]]",
		"3 1>2=1*1 2>1=1*1 2>0=1*1":                                  "[[0 2] [0 -2 -1] [0 2 0]]",
		"4 2>3=1*1 1>2=10*1 3>1=0*1 0>3=100*1":                       "[[0 1 3] [0 89 99 100] [0 0 11 0]]",
		"4 0>1=1*1 2>3=2*1 1>0=3*1 3>2=4*1 3>0=5*1":                  "[[0 1 4] [0 1 -7 -5] [0 0 4 6 0]]",
		"5 0>1=0*1 1>0=0*1 3>4=0*1 4>3=0*1 2>1=0*1 1>4=0*1":          "[[0 2 4 5] [0 0 0 0 0] [0 0 0 0 0 0]]",
		"5 0>1=100*1 1>2=100*1 2>3=100*1 3>4=100*1 4>0=100*1":        "[[0 1 2 3] [0 100 200 300 400] [0 0 0 0 500]]",
		"5 1>0=100*1 2>1=100*1 3>2=100*1 4>3=100*1 0>4=100*1":        "[[0 1 2 3] [0 -100 -200 -300 -400] [0 0 0 0 500]]",
		"5 3>4=1*1 1>2=1*1 4>1=1*1 2>0=1*1 4>2=-9*1 0>3=7*2":         "[[0 1 2 3] [0 -2 -1 -4 -3] [0 0 0 0 -11 11]]",
		"5 0>4=4*1 4>0=4*1 0>4=4*1 1>3=-2*1 3>1=9*1 2>3=1*1 1>4=3*3": "[[0 3 5 6] [0 1 -2 -1 4] [0 8 0 0 7 0 0]]",
	} {
		v := survey(s)
		tree, one := impl.TreeSights(v)
		heights, two := impl.TreeHeights(v)
		loops, three := impl.LoopErrors(v)
		expect(t, "the tree of "+s, results(results(tree, heights, loops), one, two, three), results(want, true, true, true))
	}
}

func TestTreesOfManySurveys(t *testing.T) {
	for _, v := range append(connectedSurveys(), smallSurveys()...) {
		if !isConnected(v) {
			continue
		}
		chosen, heights := treeOf(v)
		var loops []int64
		for _, s := range v.Sights {
			loops = append(loops, s.Rise-(heights[s.To]-heights[s.From]))
		}
		got, one := impl.TreeSights(v)
		above, two := impl.TreeHeights(v)
		errors, three := impl.LoopErrors(v)
		expect(t, "the tree of "+surveyText(v), results(got, above, errors, one, two, three), results(chosen, heights, loops, true, true, true))
		for _, k := range got {
			if errors[k] != 0 {
				t.Errorf("%s: the sight %d is chosen, and has a loop error", surveyText(v), k)
			}
		}
	}
}

func TestDropSight(t *testing.T) {
	const whole = "3 0>1=1*1 1>2=2*2 2>0=3*3"
	for s, want := range map[string]string{
		whole + " -1": "", whole + " 0": "3 1>2=2*2 2>0=3*3", whole + " 1": "3 0>1=1*1 2>0=3*3", whole + " 2": "3 0>1=1*1 1>2=2*2", whole + " 3": "",
		"2 0": "", "2 -1": "", "2 1": "", "5 0>4=1*1 0": "5", "5 0>4=1*1 1": "", "5 0>4=1*1 -1": "",
		"2 0>1=1*1 0": "2", "4 0>1=1*1 2>3=1*1 0": "4 2>3=1*1", "4 0>1=1*1 2>3=1*1 1": "4 0>1=1*1",
		"2 " + fullRow + " 7": strings.TrimSuffix("2 "+fullRow, " 1>0=7*2"), "2 " + fullRow + " 8": "", "2 " + fullRow + " 0": strings.Replace("2 "+fullRow, " 0>1=0*1", "", 1),
	} {
		at := strings.LastIndex(s, " ")
		v, k := survey(s[:at]), numbers(s[at+1:])[0]
		less, ok := impl.DropSight(v, k)
		wanted := results(impl.Survey{}, false)
		if want != "" {
			wanted = results(survey(want), true)
		}
		expect(t, fmt.Sprintf("DropSight(%s, %d)", surveyText(v), k), results(less, ok), wanted)
	}
	for _, v := range sampleSurveys() {
		for k := int64(-2); k < 10; k++ {
			less, ok := impl.DropSight(v, k)
			want := impl.Survey{}
			if k >= 0 && k < int64(len(v.Sights)) {
				want.Points = v.Points
				for i, s := range v.Sights {
					if int64(i) != k {
						want.Sights = append(want.Sights, s)
					}
				}
			}
			expect(t, fmt.Sprintf("DropSight(%s, %d)", surveyText(v), k), results(less, ok), results(want, want.Points > 0))
		}
	}
	for _, k := range strangeNumbers() {
		_, ok := impl.DropSight(survey(whole), k)
		expect(t, fmt.Sprintf("DropSight of the sight %d", k), results(ok), results(k >= 0 && k < 3))
	}
}

func TestTextsOfSurveys(t *testing.T) {
	list := append(sampleSurveys(), smallSurveys()...)
	for s, is := range edgeSurveys {
		if is[0] {
			list = append(list, survey(s))
		}
	}
	for _, v := range list {
		text := surveyText(v)
		got, ok := impl.SurveyText(v)
		expect(t, "SurveyText("+text+")", results(got, ok), results(text, true))
		read, ok := impl.ReadSurvey(text)
		expect(t, "ReadSurvey("+text+")", results(read, ok), results(v, true))
	}
}

// formOfSurveys is that of all texts of valid surveys.
var formOfSurveys = regexp.MustCompile(`^\d( \d>\d=-?\d+\*\d)*$`)

// checkReadSurvey reads a text, which is that of a valid survey exactly if this survey is returned.
func checkReadSurvey(t *testing.T, s string) {
	t.Helper()
	want := results(impl.Survey{}, false)
	if formOfSurveys.MatchString(s) {
		if v := survey(s); surveyIsValid(v) && surveyText(v) == s {
			want = results(v, true)
		}
	}
	v, ok := impl.ReadSurvey(s)
	expect(t, fmt.Sprintf("ReadSurvey(%.60q)", s), results(v, ok), want)
}

// TestReadSurveyOfChangedTexts takes, adds and replaces each byte of a text.
func TestReadSurveyOfChangedTexts(t *testing.T) {
	for _, s := range []string{"2", "5", "2 0>1=5*1", "3 0>1=-10*1 2>1=100*3", "2 " + fullRow} {
		for i := range len(s) + 1 {
			for _, with := range []string{"", "0", "1", "2", "5", "9", "-", "+", " ", ">", "=", "*", ",", " 0>1=1*1", "1>"} {
				checkReadSurvey(t, s[:i]+with+s[i:])
				if i < len(s) {
					checkReadSurvey(t, s[:i]+with+s[i+1:])
				}
			}
		}
	}
}

// nearlySurveys are texts that are not quite those of a survey.
func nearlySurveys() []string {
	list := []string{
		">=*", " >=*", "2 >=*", "2 0>1", "2 0>1=", "2 0>1=1", "2 0>1=1*", "2 0>1*1", "2 0=1*1", "2 >1=1*1", "2 0>=1*1", "2 0>1=*1", "2 0>1=1*1*1", "2 0>1=1=1*1", "2 0>1>1=1*1", "2 0>1=1>1*1", "2 0>1*1=1", "2 0=1>1*1", "2 0*1=1>1", "2 0>1*1*1", "2 1=0>1*1",
		"2 ", " 2", "2  ", "2 0>1=1*1 ", " 2 0>1=1*1", "2  0>1=1*1", "2 0>1=1*1  0>1=1*1", "2 0>1= 1*1", "2 0 >1=1*1", "2 0> 1=1*1", "2 0>1 =1*1", "2 0>1=1 *1", "2 0>1=1* 1", "2\t0>1=1*1", "2\n0>1=1*1", "2 0>1=1*1\n", "2 0>1=1*1\x00", "2\u00a00>1=1*1", "0>1=1*1", " 0>1=1*1", "0>1=1*1 2", "2 2 0>1=1*1", "2 0>1=1*1 2", "2,0>1=1*1", "2:0>1=1*1", "20>1=1*1", "2 0>1=1*10>1=1*1",
		"02", "+2", "-2", "2.0", "2e0", "0x2", "٢", "two", "2 00>1=1*1", "2 0>01=1*1", "2 0>1=01*1", "2 0>1=1*01", "2 +0>1=1*1", "2 0>+1=1*1", "2 0>1=+1*1", "2 0>1=1*+1", "2 -0>1=1*1", "2 1>-0=1*1", "2 0>1=-0*1", "2 0>1=--1*1", "2 0>1=-*1", "2 0>1=- 1*1", "2 0>1=1.0*1", "2 0>1=1e1*1", "2 0>1=1_0*1", "2 a>1=1*1", "2 0>b=1*1", "2 0>1=c*1", "2 0>1=1*d",
		"2 0<1=1*1", "2 0-1=1*1", "2 0>1:1*1", "2 0>1=1/1", "2 0>1=1x1", "2 0>1=1×1", "2 0→1=1*1", "2 0>1=1٭1", "2 0>1=١*1", "\xff2 0>1=1*1", "2 0>1=1*1\xff", "(2 0>1=1*1)", "2 (0>1=1*1)", "2 0>1=1*1,0>1=1*1", "2 0>1=1*1;0>1=1*1", "2 0>1=1*1 -", "2 -", "-", "2-",
		"18446744073709551618", "2 18446744073709551616>1=1*1", "2 0>18446744073709551617=1*1", "2 0>1=18446744073709551617*1", "2 0>1=1*18446744073709551617",
		"2" + strings.Repeat(" 0>1=1*1", 9), "2" + strings.Repeat(" 0>1=1*1", 100000), "2" + strings.Repeat(" ", 100000), strings.Repeat("2 ", 100000), "2 0>1=1*" + strings.Repeat("1", 100000), "2 0>1=" + strings.Repeat("0", 100000) + "1*1", "2 " + strings.Repeat(">", 100000), "2 0>1=1" + strings.Repeat("*1", 100000),
	}
	for _, v := range badSurveys() {
		list = append(list, surveyText(v))
	}
	return append(list, strangeTexts()...)
}

func TestReadSurveyRefusesOtherTexts(t *testing.T) {
	for _, s := range nearlySurveys() {
		v, ok := impl.ReadSurvey(s)
		expect(t, fmt.Sprintf("ReadSurvey(%.60q)", s), results(v, ok), results(impl.Survey{}, false))
	}
}
