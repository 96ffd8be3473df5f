package tests

import (
	"fmt"
	"math"
	"math/big"
	"math/rand"
	"slices"
	"strings"
	"testing"

	"loop.example/g01099/impl"
)

// grouts returns the list whose elements are written as ring:void/injected/shrink, with blanks between two of them.
func grouts(s string) []impl.Grout {
	var list []impl.Grout
	for _, word := range strings.Fields(s) {
		n := numbers(strings.NewReplacer(":", ",", "/", ",").Replace(word))
		list = append(list, impl.Grout{Ring: n[0], Void: n[1], Injected: n[2], Shrink: n[3]})
	}
	return list
}

// losses returns the list whose elements are written as the document says, with ; between two of them.
func losses(s string) []impl.Loss {
	if s == "" {
		return nil
	}
	var list []impl.Loss
	for _, word := range strings.Split(s, ";") {
		n := numbers(strings.NewReplacer("@", "", " ", ",", "l/", ",").Replace(word))
		list = append(list, impl.Loss{Station: n[0], Volume: n[1], Width: n[2]})
	}
	return list
}

// lossText writes the text of any loss as the document says.
func lossText(l impl.Loss) string {
	return fmt.Sprintf("@%d %dl/%d", l.Station, l.Volume, l.Width)
}

// areFrom tells whether all numbers of a list are from least to most.
func areFrom(least, most int64, list ...int64) bool {
	return slices.Min(list) >= least && slices.Max(list) <= most
}

func groutIsValid(g impl.Grout) bool {
	return areFrom(0, 60, g.Ring) && areFrom(0, 100000, g.Void, g.Injected) && areFrom(0, 100, g.Shrink)
}

func groutsAreValid(list []impl.Grout) bool {
	for i, g := range list {
		if i == 12 || !groutIsValid(g) || i > 0 && list[i-1].Ring >= g.Ring {
			return false
		}
	}
	return true
}

// lossIsValid tells whether all of the trough of a loss is where there are points.
func lossIsValid(l impl.Loss) bool {
	return areFrom(0, 5, l.Width) && areFrom(0, 100000, l.Volume) && areFrom(0, 23, l.Station, l.Station-l.Width, l.Station+l.Width)
}

func lossesAreValid(list []impl.Loss) bool {
	return len(list) <= 12 && !slices.ContainsFunc(list, func(l impl.Loss) bool { return !lossIsValid(l) })
}

// setOf returns what has set, as an exact fraction that is rounded down.
func setOf(g impl.Grout) int64 {
	whole := new(big.Int).Mul(big.NewInt(g.Injected), big.NewInt(100-g.Shrink))
	return floorOf(whole, big.NewInt(100)).Int64()
}

// lossOf and spareOf return what is missing in a void, and what is too much for it.
func lossOf(g impl.Grout) int64  { return max(g.Void-setOf(g), 0) }
func spareOf(g impl.Grout) int64 { return max(setOf(g)-g.Void, 0) }

// edgeGrouts are lists at the limits and one beyond, and whether they are valid.
var edgeGrouts = map[string]bool{
	"":                             true,
	"0:100/90/10 3:50/80/0":        true,
	"0:0/0/0":                      true,
	"60:0/0/0":                     true,
	"61:0/0/0":                     false,
	"-1:0/0/0":                     false,
	"9:100000/100000/100":          true,
	"9:100001/0/0":                 false,
	"9:-1/0/0":                     false,
	"9:0/100001/0":                 false,
	"9:0/-1/0":                     false,
	"9:0/0/101":                    false,
	"9:0/0/-1":                     false,
	"0:1/1/1 1:1/1/1":              true,
	"0:1/1/1 60:1/1/1":             true,
	"0:1/1/1 61:1/1/1":             false,
	"-1:1/1/1 0:1/1/1":             false,
	"0:1/1/1 0:1/1/1":              false,
	"60:1/1/1 60:1/1/1":            false,
	"1:1/1/1 0:1/1/1":              false,
	"0:1/1/1 2:1/1/1 1:1/1/1":      false,
	"0:1/1/1 2:1/1/1 2:1/1/1":      false,
	"2:1/1/1 1:1/1/1 3:1/1/1":      false,
	"0:1/1/1 2:1/-1/1 3:1/1/1":     false,
	"0:1/1/1 2:1/1/1 3:100001/1/1": false,
}

// edgeLosses are lists at the limits and one beyond, and whether they are valid.
var edgeLosses = map[string]bool{
	"":                         true,
	"@3 10l/1":                 true,
	"@0 0l/0":                  true,
	"@23 0l/0":                 true,
	"@24 0l/0":                 false,
	"@-1 0l/0":                 false,
	"@1 0l/1":                  true,
	"@0 0l/1":                  false,
	"@22 0l/1":                 true,
	"@23 0l/1":                 false,
	"@2 7l/2":                  true,
	"@1 7l/2":                  false,
	"@21 7l/2":                 true,
	"@22 7l/2":                 false,
	"@5 100000l/5":             true,
	"@4 100000l/5":             false,
	"@18 100000l/5":            true,
	"@19 100000l/5":            false,
	"@5 100001l/5":             false,
	"@5 -1l/5":                 false,
	"@9 5l/6":                  false,
	"@9 5l/-1":                 false,
	"@9 5l/-9":                 false,
	"@3 1l/0;@2 1l/0":          true,
	"@2 1l/0;@3 1l/0;@2 4l/1":  true,
	"@3 1l/1;@3 1l/1":          true,
	"@3 1l/1;@0 1l/1":          false,
	"@24 1l/0;@3 1l/1":         false,
	"@3 1l/1;@3 -1l/1;@3 1l/1": false,
}

// listOfGrouts returns a valid list of n elements, or one that is too long.
func listOfGrouts(n int) []impl.Grout {
	var list []impl.Grout
	for ring := range int64(n) {
		list = append(list, impl.Grout{Ring: ring, Void: 50, Injected: 10 * ring, Shrink: 25})
	}
	return list
}

// badListsOfGrouts are not valid.
func badListsOfGrouts() [][]impl.Grout {
	list := [][]impl.Grout{listOfGrouts(13), listOfGrouts(14), listOfGrouts(61), make([]impl.Grout, 13), make([]impl.Grout, 100000)}
	for s, isValid := range edgeGrouts {
		if !isValid {
			list = append(list, grouts(s))
		}
	}
	return list
}

// badListsOfLosses are not valid.
func badListsOfLosses() [][]impl.Loss {
	list := [][]impl.Loss{make([]impl.Loss, 13), make([]impl.Loss, 14), make([]impl.Loss, 100000)}
	for s, isValid := range edgeLosses {
		if !isValid {
			list = append(list, losses(s))
		}
	}
	return list
}

func randomGrouts(random *rand.Rand) []impl.Grout {
	rings := random.Perm(61)[:random.Intn(13)]
	slices.Sort(rings)
	var list []impl.Grout
	for _, ring := range rings {
		most := []int64{3, 200, 100000}[random.Intn(3)]
		list = append(list, impl.Grout{Ring: int64(ring), Void: random.Int63n(most + 1), Injected: random.Int63n(most + 1), Shrink: random.Int63n(101)})
	}
	return list
}

func randomLosses(random *rand.Rand) []impl.Loss {
	list := make([]impl.Loss, random.Intn(13))
	for i := range list {
		width := random.Int63n(6)
		most := []int64{3, 200, 100000}[random.Intn(3)]
		list[i] = impl.Loss{Station: width + random.Int63n(24-2*width), Volume: random.Int63n(most + 1), Width: width}
	}
	return list
}

// sampleGrouts are valid lists: some at the limits, and some far from them.
func sampleGrouts() [][]impl.Grout {
	list := [][]impl.Grout{listOfGrouts(11), listOfGrouts(12)}
	for s, isValid := range edgeGrouts {
		if isValid {
			list = append(list, grouts(s))
		}
	}
	random := rand.New(rand.NewSource(70))
	for len(list) < 300 {
		list = append(list, randomGrouts(random))
	}
	return list
}

// sampleLosses are valid lists: some at the limits, and some far from them.
func sampleLosses() [][]impl.Loss {
	list := [][]impl.Loss{make([]impl.Loss, 11), make([]impl.Loss, 12), slices.Repeat(losses("@5 100000l/5"), 12), slices.Repeat(losses("@23 100000l/0"), 12)}
	for s, isValid := range edgeLosses {
		if isValid {
			list = append(list, losses(s))
		}
	}
	random := rand.New(rand.NewSource(71))
	for len(list) < 300 {
		list = append(list, randomLosses(random))
	}
	return list
}

func TestLimitsOfGrout(t *testing.T) {
	got := results(impl.MaxLosses, impl.MaxLitres, impl.MaxWidth, impl.Points, impl.MaxSettled, impl.MaxNeeds, impl.MaxNeed, impl.MaxUnits)
	expect(t, "limits", got, "[12 100000 5 24 2000000 12 12 6]")
	expect(t, "levels", results(impl.LevelCalm, impl.LevelWatch, impl.LevelStop), "[0 1 2]")
}

func TestValidGrouts(t *testing.T) {
	for s, want := range edgeGrouts {
		expect(t, "ValidGrouts("+s+")", results(impl.ValidGrouts(grouts(s))), results(want))
		expect(t, "the reference for "+s, results(groutsAreValid(grouts(s))), results(want))
	}
	for _, n := range []int{11, 12, 13, 14, 61} {
		expect(t, fmt.Sprintf("ValidGrouts of %d elements", n), results(impl.ValidGrouts(listOfGrouts(n))), results(n <= 12))
	}
	random := rand.New(rand.NewSource(72))
	counts := map[bool]int{}
	for range 5000 {
		list := randomGrouts(random)
		if len(list) > 0 {
			g := &list[random.Intn(len(list))]
			for _, target := range []*int64{&g.Ring, &g.Void, &g.Injected, &g.Shrink} {
				if random.Intn(3) == 0 {
					*target += []int64{-100001, -101, -1, 1, 101, 100001}[random.Intn(6)]
				}
			}
		}
		want := groutsAreValid(list)
		counts[want]++
		expect(t, fmt.Sprintf("ValidGrouts(%v)", list), results(impl.ValidGrouts(list)), results(want))
	}
	if counts[true] < 500 || counts[false] < 500 {
		t.Errorf("%d lists are valid, and %d are not", counts[true], counts[false])
	}
}

func TestLossOf(t *testing.T) {
	for _, c := range []struct{ grout, want string }{
		{"0:100/90/10", "[19 true]"},
		// What has set is rounded down, even to 0.
		{"0:10/3/50", "[9 true]"},
		{"0:10/199/99", "[9 true]"},
		{"0:10/200/99", "[8 true]"},
		{"0:10/99/99", "[10 true]"},
		{"0:10/100/99", "[9 true]"},
		{"0:10/7/1", "[4 true]"},
		{"0:100000/99999/1", "[1001 true]"},
		// Exactly filled, and filled with too much.
		{"0:50/100/50", "[0 true]"},
		{"0:51/100/50", "[1 true]"},
		{"0:49/100/50", "[0 true]"},
		{"0:0/3/50", "[0 true]"},
		{"0:0/100000/0", "[0 true]"},
		// Nothing is lost when it sets, and all is.
		{"0:80/79/0", "[1 true]"},
		{"0:80/80/0", "[0 true]"},
		{"0:80/81/0", "[0 true]"},
		{"0:80/79/100", "[80 true]"},
		{"0:100000/100000/100", "[100000 true]"},
		{"0:100000/0/0", "[100000 true]"},
		{"0:0/0/0", "[0 true]"},
		{"60:7/0/0", "[7 true]"},
	} {
		loss, ok := impl.LossOf(grouts(c.grout)[0])
		expect(t, "LossOf("+c.grout+")", results(loss, ok), c.want)
	}
	for _, list := range sampleGrouts() {
		for _, g := range list {
			loss, ok := impl.LossOf(g)
			expect(t, fmt.Sprintf("LossOf(%v)", g), results(loss, ok), results(lossOf(g), true))
		}
	}
	for s := range edgeGrouts {
		for _, g := range grouts(s) {
			if !groutIsValid(g) {
				loss, ok := impl.LossOf(g)
				expect(t, fmt.Sprintf("LossOf(%v)", g), results(loss, ok), "[0 false]")
			}
		}
	}
}

func TestSpareOf(t *testing.T) {
	for _, c := range []struct{ grouts, want string }{
		{"0:100/90/10 3:50/80/0", "[30 true]"},
		{"", "[0 true]"},
		// A void that is not filled takes nothing away from the others.
		{"0:100/0/0 3:50/80/0 4:100/0/0", "[30 true]"},
		{"0:100/0/0", "[0 true]"},
		{"0:50/100/50", "[0 true]"},
		{"0:49/100/50 1:48/100/50", "[3 true]"},
		// Each one is rounded down on its own.
		{"0:0/3/50", "[1 true]"},
		{"0:0/3/50 1:0/3/50", "[2 true]"},
		{"0:0/99/99 1:0/99/99", "[0 true]"},
		{"0:0/100000/100 1:0/100000/0", "[100000 true]"},
	} {
		spare, ok := impl.SpareOf(grouts(c.grouts))
		expect(t, "SpareOf("+c.grouts+")", results(spare, ok), c.want)
	}
	most := listOfGrouts(12)
	for i := range most {
		most[i].Void, most[i].Injected, most[i].Shrink = 0, 100000, 0
	}
	spare, ok := impl.SpareOf(most)
	expect(t, "SpareOf the greatest list", results(spare, ok), "[1200000 true]")
	for _, list := range sampleGrouts() {
		want := int64(0)
		for _, g := range list {
			want += spareOf(g)
			// What has set is in the void, or beyond it.
			expect(t, fmt.Sprintf("the void of %v", g), results(g.Void+spareOf(g)), results(setOf(g)+lossOf(g)))
		}
		spare, ok := impl.SpareOf(list)
		expect(t, fmt.Sprintf("SpareOf(%v)", list), results(spare, ok), results(want, true))
	}
	for _, list := range badListsOfGrouts() {
		spare, ok := impl.SpareOf(list)
		expect(t, fmt.Sprintf("SpareOf(%.80s)", fmt.Sprint(list)), results(spare, ok), "[0 false]")
	}
}

func TestValidLosses(t *testing.T) {
	for s, want := range edgeLosses {
		expect(t, "ValidLosses("+s+")", results(impl.ValidLosses(losses(s))), results(want))
		expect(t, "the reference for "+s, results(lossesAreValid(losses(s))), results(want))
	}
	for _, n := range []int{11, 12, 13, 14, 100000} {
		for _, s := range []string{"@3 10l/1", "@0 0l/0"} {
			list := slices.Repeat(losses(s), n)
			expect(t, fmt.Sprintf("ValidLosses of %d times %s", n, s), results(impl.ValidLosses(list)), results(n <= 12))
		}
	}
	// All stations and widths near their limits.
	for width := int64(-2); width < 8; width++ {
		for station := int64(-7); station < 32; station++ {
			l := impl.Loss{Station: station, Volume: 1, Width: width}
			for _, list := range [][]impl.Loss{{l}, {{}, l}, {l, {}}} {
				expect(t, fmt.Sprintf("ValidLosses(%v)", list), results(impl.ValidLosses(list)), results(lossIsValid(l)))
			}
		}
	}
}

// checkLossesOf compares LossesOf with what is missing in each void.
func checkLossesOf(t *testing.T, list []impl.Grout, width int64) bool {
	t.Helper()
	var want []impl.Loss
	for _, g := range list {
		want = append(want, impl.Loss{Station: g.Ring, Volume: lossOf(g), Width: width})
	}
	isGood := areFrom(0, 5, width) && lossesAreValid(want)
	if !isGood {
		want = nil
	}
	got, ok := impl.LossesOf(list, width)
	expect(t, fmt.Sprintf("LossesOf(%v, %d)", list, width), results(got, ok), results(want, isGood))
	return ok
}

func TestLossesOf(t *testing.T) {
	counts := map[bool]int{}
	for _, list := range sampleGrouts() {
		for width := int64(-1); width < 7; width++ {
			near := slices.DeleteFunc(slices.Clone(list), func(g impl.Grout) bool { return g.Ring < width || g.Ring > 23-width })
			counts[checkLossesOf(t, list, width)]++
			counts[checkLossesOf(t, near, width)]++
		}
	}
	if counts[true] < 500 || counts[false] < 500 {
		t.Errorf("LossesOf succeeds for %d lists, and fails for %d", counts[true], counts[false])
	}
}

func TestLossesOfAtTheirLimits(t *testing.T) {
	for _, c := range []struct {
		grouts string
		width  int64
		want   string
	}{
		{"0:100/90/10 3:50/80/0", 0, "[[{0 19 0} {3 0 0}] true]"},
		{"0:100/90/10 3:50/80/0", 1, "[[] false]"},
		{"1:100/90/10 3:50/80/0", 1, "[[{1 19 1} {3 0 1}] true]"},
		// The first and the last station of a width, and one beyond.
		{"23:7/0/0", 0, "[[{23 7 0}] true]"},
		{"24:7/0/0", 0, "[[] false]"},
		{"60:7/0/0", 0, "[[] false]"},
		{"22:7/0/0", 1, "[[{22 7 1}] true]"},
		{"23:7/0/0", 1, "[[] false]"},
		{"5:7/0/0 18:8/0/0", 5, "[[{5 7 5} {18 8 5}] true]"},
		{"4:7/0/0 18:8/0/0", 5, "[[] false]"},
		{"5:7/0/0 19:8/0/0", 5, "[[] false]"},
		// A station beyond the points, although nothing is lost there.
		{"3:7/0/0 24:7/7/0", 0, "[[] false]"},
		{"0:0/0/0", 1, "[[] false]"},
		// Widths beyond their limits, even if there is no loss.
		{"", 0, "[[] true]"},
		{"", 5, "[[] true]"},
		{"", 6, "[[] false]"},
		{"", -1, "[[] false]"},
		{"", math.MaxInt64, "[[] false]"},
		{"", math.MinInt64, "[[] false]"},
		{"9:7/0/0", 6, "[[] false]"},
		{"9:7/0/0", -1, "[[] false]"},
	} {
		got, ok := impl.LossesOf(grouts(c.grouts), c.width)
		expect(t, fmt.Sprintf("LossesOf(%s, %d)", c.grouts, c.width), results(got, ok), c.want)
	}
	got, ok := impl.LossesOf(listOfGrouts(12), 0)
	expect(t, "LossesOf MaxLosses elements", results(len(got), impl.ValidLosses(got), ok), "[12 true true]")
	for _, list := range badListsOfGrouts() {
		got, ok := impl.LossesOf(list, 0)
		expect(t, fmt.Sprintf("LossesOf(%.80s)", fmt.Sprint(list)), results(got, ok), "[[] false]")
	}
}

func TestLossText(t *testing.T) {
	for _, list := range sampleLosses() {
		for _, l := range list {
			want := lossText(l)
			text, ok := impl.LossText(l)
			expect(t, fmt.Sprintf("LossText(%v)", l), results(text, ok), results(want, true))
			back, ok := impl.ReadLoss(want)
			expect(t, "ReadLoss("+want+")", results(back, ok), results(l, true))
		}
	}
	for _, list := range badListsOfLosses() {
		for _, l := range list[:min(len(list), 3)] {
			if !lossIsValid(l) {
				text, ok := impl.LossText(l)
				expect(t, fmt.Sprintf("LossText(%v)", l), results(text, ok), "[ false]")
			}
		}
	}
}

// nearlyLosses are texts that are not quite those of a loss.
func nearlyLosses() []string {
	list := []string{
		"@", "@ ", "@ l/", "l/", "@3", "@3 ", "@3 10", "@3 10l", "@3 10l/", "@3 10l1", "@3 10/1", "@3 10 /1", "@3 l/1", "@ 10l/1", "@10l/1", "@310l/1", "3 10l/1", "#3 10l/1", "@3 10/l1", "@3 10l|1",
		"@@3 10l/1", "@3@ 10l/1", "@3 @10l/1", "@3  10l/1", "@3 10ll/1", "@3 10l//1", "@3 10l/l/1", "@3 10l/1l/1", "@3 10l/1/1", "@3 10l/1 ", "@3 10l/1 1", "@3 4 10l/1", "@3 10l/1@", "@3 10l/1@3 10l/1", "@3 10l/1;", "@3 10l/1\n", "@3 10l/1\x00",
		" @3 10l/1", "@ 3 10l/1", "@3 10 l/1", "@3 10l /1", "@3 10l/ 1", "@3\t10l/1", "@3\n10l/1", "@3,10l/1", "@3:10l/1", "@3_10l/1", "@3\u00a010l/1", "\n@3 10l/1", "@3 10L/1", "@3 10I/1", "@3 10l\\1",
		"@03 10l/1", "@3 010l/1", "@3 10l/01", "@+3 10l/1", "@3 +10l/1", "@3 10l/+1", "@-0 10l/0", "@3 -0l/1", "@3 10l/-0", "@-3 10l/1", "@3 -10l/1", "@3 10l/-1", "@3 --10l/1", "@3 -l/1", "@- 10l/1", "@3 10l/-",
		"@3.0 10l/1", "@3 1e1l/1", "@3 10.0l/1", "@0x3 10l/1", "@3 1_0l/1", "@3 10l/1.", "@a 10l/1", "@3 al/1", "@3 10l/a", "@٣ 10l/1", "@3 10l/٣", "\xff@3 10l/1", "@3 10l/\xff", "＠3 10l/1",
		"@18446744073709551619 10l/1", "@3 18446744073709551626l/1", "@3 10l/18446744073709551617", "@-18446744073709551613 10l/1", "@4294967299 10l/1",
		"@" + strings.Repeat("9", 100000) + " 10l/1", "@3 " + strings.Repeat("0", 100000) + "10l/1", "@3 10" + strings.Repeat("l/", 100000) + "1", strings.Repeat("@", 100000) + "3 10l/1", "@3" + strings.Repeat(" ", 100000) + "10l/1",
	}
	for s, isValid := range edgeLosses {
		if !isValid || s == "" || strings.Contains(s, ";") {
			list = append(list, s)
		}
	}
	return append(list, strangeTexts()...)
}

func TestReadLossRefusesOtherTexts(t *testing.T) {
	for _, s := range nearlyLosses() {
		l, ok := impl.ReadLoss(s)
		expect(t, fmt.Sprintf("ReadLoss(%.60q)", s), results(l, ok), results(impl.Loss{}, false))
	}
}
