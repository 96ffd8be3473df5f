package tests

import (
	"fmt"
	"math"
	"math/rand"
	"slices"
	"strings"
	"testing"

	"loop.example/g01099/impl"
)

// head returns the head that is written as the document says, whether or not it is valid.
func head(s string) impl.Head {
	words := strings.Split(s, "|")
	costs := numbers(words[3])
	h := impl.Head{Hardness: plan(words[1]), Safe: plan(words[2]), StopCost: costs[0], ChangeCost: costs[1]}
	list := plan(strings.ReplaceAll(words[0], "/", ","))
	for i := 0; i < len(list); i += 2 {
		h.Cutters = append(h.Cutters, impl.Cutter{Track: list[i], Limit: list[i+1]})
	}
	return h
}

// stops returns the plan that is written as the document says, whether or not it is one of any head.
func stops(s string) []impl.Stop {
	if s == "" {
		return nil
	}
	var list []impl.Stop
	for _, word := range strings.Split(s, ";") {
		ring, changed, _ := strings.Cut(word, ":")
		list = append(list, impl.Stop{Ring: numbers(ring)[0], Changed: plan(changed)})
	}
	return list
}

// commas writes numbers with , between two of them.
func commas(list []int64) string {
	return strings.ReplaceAll(strings.Trim(fmt.Sprint(list), "[]"), " ", ",")
}

// headText writes the text of any head as the document says.
func headText(h impl.Head) string {
	var cutters []string
	for _, c := range h.Cutters {
		cutters = append(cutters, fmt.Sprintf("%d/%d", c.Track, c.Limit))
	}
	return fmt.Sprintf("%s|%s|%s|%d,%d", strings.Join(cutters, ","), commas(h.Hardness), commas(h.Safe), h.StopCost, h.ChangeCost)
}

// planText writes the text of any plan as the document says.
func planText(list []impl.Stop) string {
	var words []string
	for _, s := range list {
		words = append(words, fmt.Sprintf("%d:%s", s.Ring, commas(s.Changed)))
	}
	return strings.Join(words, ";")
}

// increases tells whether the numbers of a list are a set from least to most.
func increases(least, most int64, list ...int64) bool {
	for _, n := range list {
		if n < least || n > most {
			return false
		}
		least = n + 1
	}
	return true
}

func headIsValid(h impl.Head) bool {
	if len(h.Cutters) < 1 || len(h.Cutters) > 5 || len(h.Hardness) > 60 || len(h.Safe) > 8 {
		return false
	}
	for _, c := range h.Cutters {
		if !areFrom(1, 100, c.Track) || !areFrom(1, 1000000, c.Limit) {
			return false
		}
	}
	return areFrom(0, 100, append([]int64{0}, h.Hardness...)...) && areFrom(0, 10000, h.StopCost, h.ChangeCost) &&
		increases(0, int64(len(h.Hardness))-1, h.Safe...)
}

func planIsValid(h impl.Head, list []impl.Stop) bool {
	var rings []int64
	for _, s := range list {
		if len(s.Changed) == 0 || !slices.Contains(h.Safe, s.Ring) || !increases(0, int64(len(h.Cutters))-1, s.Changed...) {
			return false
		}
		rings = append(rings, s.Ring)
	}
	return headIsValid(h) && increases(0, 59, rings...)
}

// driven drives all rings one after another: it returns the wear of all cutters at each of them and at the end, and the cutter and the ring of the first failure, both -1 if there is none.
func driven(h impl.Head, list []impl.Stop) (worn [][]int64, cutter, ring int64) {
	wear := make([]int64, len(h.Cutters))
	cutter, ring = -1, -1
	for n, hardness := range h.Hardness {
		for _, s := range list {
			for _, changed := range s.Changed {
				if s.Ring == int64(n) {
					wear[changed] = 0
				}
			}
		}
		worn = append(worn, slices.Clone(wear))
		for i, c := range h.Cutters {
			wear[i] += c.Track * hardness
			if wear[i] > c.Limit && ring < 0 {
				cutter, ring = int64(i), int64(n)
			}
		}
	}
	return append(worn, wear), cutter, ring
}

func costOf(h impl.Head, list []impl.Stop) int64 {
	cost := int64(0)
	for _, s := range list {
		cost += h.StopCost
		for range s.Changed {
			cost += h.ChangeCost
		}
	}
	return cost
}

// rangeOf drives ring after ring until a new cutter is worn too much.
func rangeOf(h impl.Head, cutter, ring int64) int64 {
	wear, rings := int64(0), int64(0)
	for _, hardness := range h.Hardness[ring:] {
		if wear += h.Cutters[cutter].Track * hardness; wear > h.Cutters[cutter].Limit {
			break
		}
		rings++
	}
	return rings
}

// row has n equal numbers, with , between two of them.
func row(n int, number string) string {
	return strings.TrimSuffix(strings.Repeat(number+",", n), ",")
}

// edgeHeads are heads at the limits and one beyond, and whether they are valid.
var edgeHeads = map[string]bool{
	"2/20,1/20|5,5,5,5|1,2|10,3": true,
	// No cutter, one, MaxCutters and one more.
	"|||0,0":                                 false,
	"|5,5|1|0,0":                             false,
	"1/1|||0,0":                              true,
	"1/1|5||0,0":                             true,
	"1/10,2/20,3/30,4/40,5/50|5,5,5|1,2|1,1": true,
	row(5, "1/1") + "|||0,0":                 true,
	row(6, "1/1") + "|||0,0":                 false,
	// No ring, MaxRings of them and one more.
	"1/1||0|0,0":                               false,
	"3/100|" + row(60, "1") + "|0,59|0,0":      true,
	"3/100|" + row(61, "1") + "|0,59|0,0":      false,
	"100/1000000|" + row(60, "0") + "|7|0,0":   true,
	"100/1000000|" + row(60, "100") + "|7|0,0": true,
	"100/1|" + row(60, "100") + "|7|0,0":       true,
	"1/1|" + row(60, "0") + "|7|0,0":           true,
	"1/1|" + row(60, "100") + "|7|0,0":         true,
	// Track, Limit and Hardness at both of their ends.
	"0/1|||0,0":               false,
	"-1/1|||0,0":              false,
	"100/1|||0,0":             true,
	"101/1|||0,0":             false,
	"1/0|||0,0":               false,
	"1/-1|||0,0":              false,
	"1/1000000|||0,0":         true,
	"1/1000001|||0,0":         false,
	"1/1,0/1|||0,0":           false,
	"1/1,1/0|||0,0":           false,
	"1/1,1/1,101/1|||0,0":     false,
	"1/1,1/1000001|||0,0":     false,
	"1/1|-1||0,0":             false,
	"1/1|101||0,0":            false,
	"1/1|0||0,0":              true,
	"1/1|100||0,0":            true,
	"1/1|0,100,101|1|0,0":     false,
	"1/1|0,-1,100|1|0,0":      false,
	"100/1|100,0,100||0,0":    true,
	"1/1|100,100|0,1|0,0":     true,
	"1/100|" + "99" + "||0,0": true,
	// No Safe ring, MaxSafe of them and one more; one that is no ring, and no sets.
	"1/9|1,1,1,1,1,1,1,1,1||1,1":                  true,
	"1/9|1,1,1,1,1,1,1,1,1|0,1,2,3,4,5,6,7|1,1":   true,
	"1/9|1,1,1,1,1,1,1,1,1|1,2,3,4,5,6,7,8|1,1":   true,
	"1/9|1,1,1,1,1,1,1,1,1|0,1,2,3,4,5,6,7,8|1,1": false,
	"1/9|1,1|0|1,1":                   true,
	"1/9|1,1|1|1,1":                   true,
	"1/9|1,1|2|1,1":                   false,
	"1/9|1,1|-1|1,1":                  false,
	"1/9|1,1|0,1,2|1,1":               false,
	"1/9|1,1|-1,0|1,1":                false,
	"1/9|1,1|1,0|1,1":                 false,
	"1/9|1,1|1,1|1,1":                 false,
	"1/9|1,1|0,0|1,1":                 false,
	"1/9|1,1,1|0,2,1|1,1":             false,
	"1/9|1,1,1|0,1,1|1,1":             false,
	"1/9|" + row(60, "1") + "|59|1,1": true,
	"1/9|" + row(60, "1") + "|60|1,1": false,
	"1/9|" + row(60, "1") + "|52,53,54,55,56,57,58,59|1,1": true,
	// StopCost and ChangeCost at both of their ends.
	"1/1|||10000,10000": true,
	"1/1|||10001,0":     false,
	"1/1|||0,10001":     false,
	"1/1|||-1,0":        false,
	"1/1|||0,-1":        false,
	"1/1|||10000,0":     true,
	"1/1|||0,10000":     true,
	// Numbers that overflow when they are multiplied, or when 1 is added.
	"9223372036854775807/1|1||0,0":           false,
	"-9223372036854775808/1|1||0,0":          false,
	"1/9223372036854775807|1||0,0":           false,
	"1/-9223372036854775808|1||0,0":          false,
	"1/1|9223372036854775807||0,0":           false,
	"1/1|-9223372036854775808||0,0":          false,
	"1/1|1|9223372036854775807|0,0":          false,
	"1/1|1|-9223372036854775808|0,0":         false,
	"1/1|1||9223372036854775807,0":           false,
	"1/1|1||0,-9223372036854775808":          false,
	"1/1|1|0,-9223372036854775808|0,0":       false,
	"1/1|1,1|0,9223372036854775807|0,0":      false,
	"1/1|1,1|4294967296|0,0":                 false,
	"1/1|1,1|0,4294967297|0,0":               false,
	"4294967297/4294967297|4294967296||0,0":  false,
	"1/1|18446744073709||1000000000,1000000": false,
}

// badHeads are not valid: just behind a limit, or without some lists.
func badHeads() []impl.Head {
	list := []impl.Head{{}, {Hardness: []int64{1}}, {Cutters: []impl.Cutter{{}}}, {Cutters: []impl.Cutter{{Track: 1}}}, {Cutters: []impl.Cutter{{Limit: 1}}}}
	for s, isValid := range edgeHeads {
		if !isValid {
			list = append(list, head(s))
		}
	}
	return list
}

// sampleHeads are valid: some at the limits, and some far from them.
func sampleHeads() []impl.Head {
	var list []impl.Head
	for s, isValid := range edgeHeads {
		if isValid {
			list = append(list, head(s))
		}
	}
	slices.SortFunc(list, func(a, b impl.Head) int { return strings.Compare(headText(a), headText(b)) })
	random := rand.New(rand.NewSource(80))
	for len(list) < 400 {
		list = append(list, randomHead(random, 1+random.Intn(5), random.Intn(61), random.Intn(9)))
	}
	return list
}

// randomHead returns a valid head with some cutters, rings and Safe rings. Cutters often reach their limits exactly.
func randomHead(random *rand.Rand, cutters, rings, safe int) impl.Head {
	pick := func(list ...int64) int64 { return list[random.Intn(len(list))] }
	h := impl.Head{StopCost: pick(0, 1, 2, 7, 10000), ChangeCost: pick(0, 1, 2, 3, 10000)}
	most := pick(1, 1, 3, 100)
	for range rings {
		h.Hardness = append(h.Hardness, pick(most, most, random.Int63n(most+1), 0))
	}
	for range cutters {
		c := impl.Cutter{Track: pick(1, 2, 1+random.Int63n(100))}
		many := rings * (1 + random.Intn(4)) / 4
		from := random.Intn(rings - many + 1)
		for _, hardness := range h.Hardness[from : from+many] {
			c.Limit += c.Track * hardness
		}
		c.Limit = max(c.Limit+pick(0, 0, -1, 1, most*c.Track), 1)
		h.Cutters = append(h.Cutters, c)
	}
	for _, ring := range random.Perm(rings)[:min(safe, rings)] {
		h.Safe = append(h.Safe, int64(ring))
	}
	slices.Sort(h.Safe)
	return h
}

// randomPlan returns a plan of a valid head.
func randomPlan(random *rand.Rand, h impl.Head) []impl.Stop {
	var list []impl.Stop
	for _, ring := range h.Safe {
		if changed := someOf(random.Int63(), upTo(len(h.Cutters))); len(changed) > 0 && random.Intn(4) > 0 {
			list = append(list, impl.Stop{Ring: ring, Changed: changed})
		}
	}
	return list
}

// changeAll returns the plan with all changes that there can be.
func changeAll(h impl.Head) []impl.Stop {
	var list []impl.Stop
	for _, ring := range h.Safe {
		list = append(list, impl.Stop{Ring: ring, Changed: upTo(len(h.Cutters))})
	}
	return list
}

// upTo has the numbers from 0 to n - 1.
func upTo(n int) []int64 {
	var list []int64
	for i := range n {
		list = append(list, int64(i))
	}
	return list
}

// someOf returns the numbers of a list whose indices are the bits of a number.
func someOf(number int64, list []int64) []int64 {
	var some []int64
	for i, n := range list {
		if number>>i&1 == 1 {
			some = append(some, n)
		}
	}
	return some
}

func TestLimitsOfHeads(t *testing.T) {
	got := results(impl.MaxCutters, impl.MaxSafe, impl.MaxTrack, impl.MaxHardness, impl.MaxWear, impl.MaxPrice)
	expect(t, "limits", got, "[5 8 100 100 1000000 10000]")
}

func TestValidHead(t *testing.T) {
	for s, isValid := range edgeHeads {
		h := head(s)
		expect(t, "the reference for "+s, results(headIsValid(h)), results(isValid))
		expect(t, "ValidHead("+s+")", results(impl.ValidHead(h)), results(isValid))
	}
	for _, h := range sampleHeads() {
		expect(t, "ValidHead("+headText(h)+")", results(impl.ValidHead(h)), "[true]")
	}
	for _, h := range badHeads() {
		expect(t, "ValidHead("+headText(h)+")", results(impl.ValidHead(h)), "[false]")
	}
}

// edgePlans are plans of the head 2/20,1/20,3/30|5,5,5,5,5,5|0,1,2,5|10,3, and some that are none.
var edgePlans = map[string]bool{
	"":                                    true,
	"2:0":                                 true,
	"0:0":                                 true,
	"5:2":                                 true,
	"2:0,1,2":                             true,
	"0:0,1,2;1:0,1,2;2:0,1,2;5:0,1,2":     true,
	"0:0;1:1;2:2;5:0":                     true,
	"0:2;5:0":                             true,
	"0:0;1:1;2:2;5:0;5:1":                 false,
	"2:0;1:0":                             false,
	"1:0;2:0;1:0":                         false,
	"5:0;0:0":                             false,
	"1:0;1:0":                             false,
	"1:0;1:1":                             false,
	"2:0;2:0;2:0;2:0;2:0;2:0;2:0;2:0;2:0": false,
	"3:0":                                 false,
	"1:0;3:0":                             false,
	"4:0;5:0":                             false,
	"6:0":                                 false,
	"1:0;6:0":                             false,
	"-1:0":                                false,
	"-1:0;1:0":                            false,
	"1:":                                  false,
	"1:0;2:":                              false,
	"0:;1:0":                              false,
	"1:1,0":                               false,
	"1:0,0":                               false,
	"1:0,1,1":                             false,
	"1:0,2,1":                             false,
	"1:0;2:1,0":                           false,
	"1:3":                                 false,
	"1:0,3":                               false,
	"1:0,1,2,3":                           false,
	"1:-1":                                false,
	"1:-1,0":                              false,
	"1:0;2:3":                             false,
	"1:0;2:-1":                            false,
	"1:64":                                false,
	"65:0":                                false,
	"66:0":                                false,
	"9223372036854775807:0":               false,
	"-9223372036854775808:0":              false,
	"4294967297:0":                        false,
	"1:9223372036854775807":               false,
	"1:-9223372036854775808":              false,
	"1:4294967296":                        false,
	"1:0,-9223372036854775808":            false,
}

const headOfPlans = "2/20,1/20,3/30|5,5,5,5,5,5|0,1,2,5|10,3"

func TestIsPlan(t *testing.T) {
	h := head(headOfPlans)
	for s, isPlan := range edgePlans {
		list := stops(s)
		expect(t, "the reference for "+s, results(planIsValid(h, list)), results(isPlan))
		expect(t, "IsPlan("+s+")", results(impl.IsPlan(h, list)), results(isPlan))
	}
	random := rand.New(rand.NewSource(81))
	for _, h := range sampleHeads() {
		expect(t, "IsPlan of no stop", results(impl.IsPlan(h, nil)), "[true]")
		list := randomPlan(random, h)
		call := fmt.Sprintf("IsPlan(%s, %s)", headText(h), planText(list))
		expect(t, call, results(impl.IsPlan(h, list)), "[true]")
		if len(list) > 0 {
			// One number of the plan is changed a little.
			s := &list[random.Intn(len(list))]
			s.Changed = slices.Clone(s.Changed)
			*[]*int64{&s.Ring, &s.Changed[random.Intn(len(s.Changed))]}[random.Intn(2)] += random.Int63n(5) - 2
			expect(t, call+" with another number", results(impl.IsPlan(h, list)), results(planIsValid(h, list)))
		}
	}
}

// pursued shows what the functions that receive a plan return for it.
func pursued(h impl.Head, list []impl.Stop) string {
	cost, one := impl.CostOf(h, list)
	cutter, ring, two := impl.FirstFailure(h, list)
	text, three := impl.PlanText(h, list)
	return results(impl.IsPlan(h, list), cost, one, cutter, ring, two, impl.IsEnough(h, list), text, three)
}

const noPlan = "[false 0 false 0 0 false false  false]"

func TestFunctionsRefusePlansThatAreNone(t *testing.T) {
	h := head(headOfPlans)
	for s, isPlan := range edgePlans {
		if !isPlan {
			expect(t, "the plan "+s, pursued(h, stops(s)), noPlan)
			for ring := int64(-1); ring <= 7; ring++ {
				worn, ok := impl.WornAt(h, stops(s), ring)
				expect(t, fmt.Sprintf("WornAt(%s, %d)", s, ring), results(worn, ok), "[[] false]")
			}
		}
	}
	for _, h := range badHeads() {
		for _, list := range [][]impl.Stop{nil, stops("0:0"), stops("1:0"), {{}}} {
			worn, ok := impl.WornAt(h, list, 0)
			expect(t, "a plan of the head "+headText(h), pursued(h, list)+results(worn, ok), noPlan+"[[] false]")
		}
	}
}

// checkPlan compares what is returned for a plan with its drive.
func checkPlan(t *testing.T, h impl.Head, list []impl.Stop) {
	t.Helper()
	name := fmt.Sprintf("(%s, %s", headText(h), planText(list))
	worn, cutter, ring := driven(h, list)
	want := results(true, costOf(h, list), true, cutter, ring, true, false, planText(list), true)
	if ring < 0 {
		want = results(true, costOf(h, list), true, 0, 0, false, true, planText(list), true)
	}
	expect(t, name+")", pursued(h, list), want)
	rings := int64(len(h.Hardness))
	for n := int64(-1); n <= rings+1; n++ {
		want := results([]int64{}, false)
		if areFrom(0, rings, n) {
			want = results(worn[n], true)
		}
		got, ok := impl.WornAt(h, list, n)
		expect(t, fmt.Sprintf("WornAt%s, %d)", name, n), results(got, ok), want)
	}
}

func TestPlansAreDriven(t *testing.T) {
	random := rand.New(rand.NewSource(82))
	counts := map[bool]int{}
	for _, h := range sampleHeads() {
		lists := [][]impl.Stop{nil, changeAll(h)}
		for range 5 {
			lists = append(lists, randomPlan(random, h))
		}
		for _, list := range lists {
			checkPlan(t, h, list)
			counts[impl.IsEnough(h, list)]++
		}
	}
	if counts[true] < 300 || counts[false] < 300 {
		t.Errorf("sufficient plans and others: %v", counts)
	}
	h := head(headOfPlans)
	for s, isPlan := range edgePlans {
		if isPlan {
			checkPlan(t, h, stops(s))
		}
	}
}

func TestCostOf(t *testing.T) {
	h := head(headOfPlans)
	for s, want := range map[string]int64{"": 0, "2:0": 13, "0:0": 13, "2:0,1,2": 19, "1:0;2:0": 26, "0:0,1,2;1:0,1,2;2:0,1,2;5:0,1,2": 76} {
		cost, ok := impl.CostOf(h, stops(s))
		expect(t, "CostOf("+s+")", results(cost, ok), results(want, true))
	}
	most := head(row(5, "1/1") + "|" + row(8, "0") + "|0,1,2,3,4,5,6,7|10000,10000")
	list := changeAll(most)
	cost, ok := impl.CostOf(most, list)
	expect(t, "the greatest cost", results(cost, ok), "[480000 true]")
	most.StopCost = 0
	cost, ok = impl.CostOf(most, list)
	expect(t, "the cost without that of stops", results(cost, ok), "[400000 true]")
	most.StopCost, most.ChangeCost = 1, 0
	cost, ok = impl.CostOf(most, list)
	expect(t, "the cost without that of changes", results(cost, ok), "[8 true]")
}

func TestWornAtItsLimits(t *testing.T) {
	two, most := "2/20,1/20|5,5,5,5|1,2|10,3", "100/1|"+row(60, "100")+"|0,30,59|0,0"
	for _, c := range []struct {
		head, plan string
		ring       int64
		want       string
	}{
		// At the ring 0, at a stop, just behind it, and behind all rings.
		{two, "2:0", 0, "[[0 0] true]"},
		{two, "2:0", 1, "[[10 5] true]"},
		{two, "2:0", 2, "[[0 10] true]"},
		{two, "2:0", 3, "[[10 15] true]"},
		{two, "2:0", 4, "[[20 20] true]"},
		{two, "2:0", 5, "[[] false]"},
		{two, "2:0", -1, "[[] false]"},
		{two, "2:0", math.MaxInt64, "[[] false]"},
		{two, "2:0", math.MinInt64, "[[] false]"},
		{two, "1:1;2:0,1", 2, "[[0 0] true]"},
		{two, "1:1;2:0", 2, "[[0 5] true]"},
		// Nothing stops the wear at the limit.
		{two, "", 4, "[[40 20] true]"},
		{most, "", 60, "[[600000] true]"},
		{most, "30:0", 60, "[[300000] true]"},
		{most, "0:0", 0, "[[0] true]"},
		{most, "0:0", 1, "[[10000] true]"},
		{most, "0:0", 60, "[[600000] true]"},
		{most, "0:0;30:0;59:0", 59, "[[0] true]"},
		{most, "0:0;30:0;59:0", 58, "[[280000] true]"},
		{most, "59:0", 60, "[[10000] true]"},
		{most, "59:0", 61, "[[] false]"},
		{"1/1|" + row(60, "0") + "||0,0", "", 60, "[[0] true]"},
		// Without rings.
		{"1/1,1/1|||0,0", "", 0, "[[0 0] true]"},
		{"1/1,1/1|||0,0", "", 1, "[[] false]"},
	} {
		worn, ok := impl.WornAt(head(c.head), stops(c.plan), c.ring)
		expect(t, fmt.Sprintf("WornAt(%s, %s, %d)", c.head, c.plan, c.ring), results(worn, ok), c.want)
	}
}

func TestFirstFailure(t *testing.T) {
	two := "2/20,1/20|5,5,5,5|1,2|10,3"
	for _, c := range []struct{ head, plan, want string }{
		{two, "", "[0 2 true false]"},
		{two, "1:0", "[0 3 true false]"},
		{two, "2:0", "[0 0 false true]"},
		{two, "1:1", "[0 2 true false]"},
		// A wear that is exactly the Limit, and one more.
		{"3/15|5|0|0,0", "", "[0 0 false true]"},
		{"3/14|5|0|0,0", "", "[0 0 true false]"},
		{"3/14|5|0|0,0", "0:0", "[0 0 true false]"},
		{"3/30|5,5|1|0,0", "", "[0 0 false true]"},
		{"3/29|5,5|1|0,0", "", "[0 1 true false]"},
		{"3/29|5,5|1|0,0", "1:0", "[0 0 false true]"},
		{"100/600000|" + row(60, "100") + "||0,0", "", "[0 0 false true]"},
		{"100/599999|" + row(60, "100") + "||0,0", "", "[0 59 true false]"},
		// Two cutters fail in the same ring, and in different ones.
		{"1/10,1/10|5,5,5||0,0", "", "[0 2 true false]"},
		{"1/12,1/10|5,5,5||0,0", "", "[0 2 true false]"},
		{"1/99,1/10,1/11|5,5,5||0,0", "", "[1 2 true false]"},
		{"1/10,1/9|5,5,5||0,0", "", "[1 1 true false]"},
		{"1/10,1/10,1/4|5,5,5||0,0", "", "[2 0 true false]"},
		{"1/10,1/10|5,5,5,5,5|1|0,0", "1:0", "[1 2 true false]"},
		{"1/10,1/10|5,5,5,5,5|1,2|0,0", "1:0;2:1", "[0 3 true false]"},
		// Nothing is worn in rings with the hardness 0, and later ones fail all the same.
		{"1/1|0,0,0||0,0", "", "[0 0 false true]"},
		{"1/1|0,2,0||0,0", "", "[0 1 true false]"},
		{"1/1|1,0,0,1|0,1,2,3|0,0", "", "[0 3 true false]"},
		{"1/1|1,0,0,1|0,1,2,3|0,0", "0:0", "[0 3 true false]"},
		{"1/1|1,0,0,1|0,1,2,3|0,0", "1:0", "[0 0 false true]"},
		{"1/1|1,0,0,1|0,1,2,3|0,0", "3:0", "[0 0 false true]"},
		// Only the first one of several failures, also of the same cutter, counts.
		{"1/1|2,2,2|1,2|0,0", "1:0;2:0", "[0 0 true false]"},
		{"1/1|1,1,1,1|1,3|0,0", "1:0;3:0", "[0 2 true false]"},
		{"1/1|||0,0", "", "[0 0 false true]"},
	} {
		h, list := head(c.head), stops(c.plan)
		cutter, ring, ok := impl.FirstFailure(h, list)
		expect(t, fmt.Sprintf("FirstFailure(%s, %s)", c.head, c.plan), results(cutter, ring, ok, impl.IsEnough(h, list)), c.want)
	}
}

func TestRangeOf(t *testing.T) {
	for _, h := range sampleHeads() {
		cutters, rings := int64(len(h.Cutters)), int64(len(h.Hardness))
		for cutter := int64(-1); cutter <= cutters; cutter++ {
			for ring := int64(-1); ring <= rings+1; ring++ {
				want := results(0, false)
				if areFrom(0, cutters-1, cutter) && areFrom(0, rings-1, ring) {
					want = results(rangeOf(h, cutter, ring), true)
				}
				got, ok := impl.RangeOf(h, cutter, ring)
				expect(t, fmt.Sprintf("RangeOf(%s, %d, %d)", headText(h), cutter, ring), results(got, ok), want)
			}
		}
	}
	for _, h := range badHeads() {
		got, ok := impl.RangeOf(h, 0, 0)
		expect(t, "RangeOf of the head "+headText(h), results(got, ok), "[0 false]")
	}
}

func TestRangeOfAtItsLimits(t *testing.T) {
	two, most := "2/20,1/20|5,5,5,5|1,2|10,3", "100/10000,100/9999|"+row(60, "100")+"||0,0"
	for _, c := range []struct {
		head         string
		cutter, ring int64
		want         string
	}{
		{two, 0, 0, "[2 true]"},
		{two, 0, 1, "[2 true]"},
		// Up to the end.
		{two, 0, 2, "[2 true]"},
		{two, 0, 3, "[1 true]"},
		{two, 1, 0, "[4 true]"},
		{two, 1, 1, "[3 true]"},
		{two, 0, 4, "[0 false]"},
		{two, 0, 5, "[0 false]"},
		{two, 0, -1, "[0 false]"},
		{two, 2, 0, "[0 false]"},
		{two, -1, 0, "[0 false]"},
		{two, 0, math.MaxInt64, "[0 false]"},
		{two, 0, math.MinInt64, "[0 false]"},
		{two, math.MaxInt64, 0, "[0 false]"},
		{two, math.MinInt64, 0, "[0 false]"},
		// A ring that alone is too much, and one that is not.
		{most, 0, 0, "[1 true]"},
		{most, 1, 0, "[0 true]"},
		{most, 0, 59, "[1 true]"},
		{most, 1, 59, "[0 true]"},
		{most, 0, 60, "[0 false]"},
		{"1/5|6,5,6||0,0", 0, 0, "[0 true]"},
		{"1/5|6,5,6||0,0", 0, 1, "[1 true]"},
		{"1/5|6,5,0,0||0,0", 0, 1, "[3 true]"},
		{"1/5|5,0,0,1,0||0,0", 0, 0, "[3 true]"},
		{"1/1|" + row(60, "0") + "||0,0", 0, 0, "[60 true]"},
		{"100/1000000|" + row(60, "100") + "||0,0", 0, 0, "[60 true]"},
		{"1/1|||0,0", 0, 0, "[0 false]"},
	} {
		got, ok := impl.RangeOf(head(c.head), c.cutter, c.ring)
		expect(t, fmt.Sprintf("RangeOf(%s, %d, %d)", c.head, c.cutter, c.ring), results(got, ok), c.want)
	}
}

func TestHeadText(t *testing.T) {
	for _, h := range sampleHeads() {
		want := headText(h)
		text, ok := impl.HeadText(h)
		expect(t, "HeadText", results(text, ok), results(want, true))
		back, ok := impl.ReadHead(want)
		expect(t, "ReadHead("+want+")", results(back, ok), results(h, true))
	}
	for _, h := range badHeads() {
		text, ok := impl.HeadText(h)
		expect(t, "HeadText of "+headText(h), results(text, ok), "[ false]")
	}
}

func TestPlanText(t *testing.T) {
	random := rand.New(rand.NewSource(83))
	for _, h := range sampleHeads() {
		for _, list := range [][]impl.Stop{nil, randomPlan(random, h)} {
			want := planText(list)
			text, ok := impl.PlanText(h, list)
			expect(t, "PlanText", results(text, ok), results(want, true))
			back, ok := impl.ReadPlan(h, want)
			expect(t, "ReadPlan("+want+")", results(back, ok), results(list, true))
		}
	}
	for _, h := range badHeads() {
		for _, s := range []string{"", "0:0", "1:0"} {
			list, ok := impl.ReadPlan(h, s)
			expect(t, "ReadPlan of the head "+headText(h), results(list, ok), "[[] false]")
		}
	}
}

// nearlyHeads are texts that are not quite those of a head.
func nearlyHeads() []string {
	list := []string{
		"|", "||", "|||", "||||", "/|||,", "1/1", "1/1|", "1/1||", "1/1|||", "1/1|||0", "1/1|||0,", "1/1|||,0", "1/1|||,", "1/1|||0,0,0", "1/1|||0,0,", "1/1|||0,,0", "1/1|||,0,0", "1/1||||0,0", "1/1||0,0", "1/1|0,0", "|1/1|||0,0", "1/1|||0,0|", "1/1|||0,0|0", "1/1|||0|0",
		"1|1|0|0,0", "1/|1|0|0,0", "/1|1|0|0,0", "/|1|0|0,0", "1//1|1|0|0,0", "1/1/1|1|0|0,0", "1/1/|1|0|0,0", "1,1|1|0|0,0", "1/1,|1|0|0,0", ",1/1|1|0|0,0", "1/1,,1/1|1|0|0,0", "1/1;1/1|1|0|0,0", "1/1 1/1|1|0|0,0", "1:1|1|0|0,0", "1\\1|1|0|0,0",
		"1/1|,|0|0,0", "1/1|1,|0|0,0", "1/1|,1|0|0,0", "1/1|1,,1|0|0,0", "1/1|1;1|0|0,0", "1/1|1|,|0,0", "1/1|1|0,|0,0", "1/1|1|,0|0,0", "1/1|1,1|0,,1|0,0", "1/1|1,1|0;1|0,0", "1/1|-|0|0,0", "1/1|1|-|0,0", "1/1|1|0|-", "-|1|0|0,0", "1/1|1|0|-,0", "1/1|1|0|0,-",
		" 1/1|1|0|0,0", "1/1|1|0|0,0 ", "1 /1|1|0|0,0", "1/ 1|1|0|0,0", "1/1 |1|0|0,0", "1/1| 1|0|0,0", "1/1|1 |0|0,0", "1/1|1| 0|0,0", "1/1|1|0 |0,0", "1/1|1|0| 0,0", "1/1|1|0|0, 0", "1/1|1, 1|0|0,0", "1/1| | |0,0", "1/1|1|0|0,0\n", "1/1|1|0|0,0\x00", "\t1/1|1|0|0,0", "1/1|1|0|0,0\r", "1/1||| 0,0",
		"01/1|1|0|0,0", "1/01|1|0|0,0", "1/1|01|0|0,0", "1/1|1|00|0,0", "1/1|1|0|00,0", "1/1|1|0|0,00", "+1/1|1|0|0,0", "1/+1|1|0|0,0", "1/1|+1|0|0,0", "1/1|1|+0|0,0", "1/1|1|0|+0,0", "1/1|1|0|0,+0", "1/1|-0|0|0,0", "1/1|1|-0|0,0", "1/1|1|0|-0,0", "1/1|1|0|0,-0", "-1/1|1|0|0,0", "1/-1|1|0|0,0",
		"1.0/1|1|0|0,0", "1/1e0|1|0|0,0", "1/1|1.0|0|0,0", "1/1|0x1|0|0,0", "1/1|1|0_0|0,0", "1/1|1|0|0.0,0", "a/1|1|0|0,0", "1/a|1|0|0,0", "1/1|a|0|0,0", "1/1|1|a|0,0", "1/1|1|0|a,0", "1/1|1|0|0,a", "(1/1|1|0|0,0)", "٣/1|1|0|0,0", "1/1|٣|0|0,0", "1/1|1|٣|0,0", "\xff1/1|1|0|0,0", "1/1|1|0|0,0\xff", "1／1|1|0|0,0", "1/1¦1¦0¦0,0", "1/1\n1\n0\n0,0", "1/1/1/0/0,0",
		"18446744073709551617/1|1|0|0,0", "1/18446744073709551617|1|0|0,0", "1/1|18446744073709551617|0|0,0", "1/1|1|18446744073709551616|0,0", "1/1|1|0|18446744073709551616,0", "1/1|1|0|0,-18446744073709551616",
		strings.Repeat("1/1,", 100000) + "1/1|1|0|0,0", "1/1|" + strings.Repeat("1,", 100000) + "1|0|0,0", "1/1|1|" + strings.Repeat("0,", 100000) + "0|0,0", "1/1|1|0|" + strings.Repeat("0,", 100000) + "0", strings.Repeat("|", 100000), strings.Repeat("1/", 100000) + "1|1|0|0,0", "1/1|1|0|0,0" + strings.Repeat("|", 100000), "1/" + strings.Repeat("0", 100000) + "1|1|0|0,0", strings.Repeat("9", 100000) + "/1|1|0|0,0",
	}
	for _, h := range badHeads() {
		list = append(list, headText(h))
	}
	return append(list, strangeTexts()...)
}

func TestReadHeadRefusesOtherTexts(t *testing.T) {
	for _, s := range nearlyHeads() {
		h, ok := impl.ReadHead(s)
		expect(t, fmt.Sprintf("ReadHead(%.60q)", s), results(h, ok), results(impl.Head{}, false))
	}
}

// nearlyPlans are texts that are not quite those of a plan of headOfPlans.
func nearlyPlans() []string {
	list := []string{
		":", ";", ":;:", "1", "1:", ":0", "1:;", ";1:0", "1:0;", "1:0;;2:0", "1:0;2", "1:0;2:", "1:0;:0", "1;0", "1,0", "1/0", "1::0", "1:0:", "1:0:1", ":1:0", "1:,", "1:0,", "1:,0", "1:0,,1", "1:0;1", "1:0 2:0", "1:0|2:0", "1:0,2:0", "1:0;2:0;", "0", "-", "1:-",
		" 1:0", "1:0 ", "1 :0", "1: 0", "1:0, 1", "1:0 ,1", "1:0; 2:0", "1:0 ;2:0", "1:0\n", "1:0\x00", "\t1:0", "1:0\r", "1:0\n2:0", " ",
		"01:0", "1:00", "+1:0", "1:+0", "-0:0", "1:-0", "--1:0", "1:01", "1:0,01", "1:0;02:0",
		"1.0:0", "1:0.0", "0x1:0", "1:0e1", "1:0_1", "a:0", "1:a", "1:0a", "a1:0", "(1:0)", "٣:0", "1:٣", "\xff1:0", "1:0\xff", "1：0",
		"18446744073709551617:0", "1:18446744073709551616", "-18446744073709551615:0", "1:-18446744073709551616",
		strings.Repeat("1:0;", 100000) + "2:0", "1:" + strings.Repeat("0,", 100000) + "0", strings.Repeat(";", 100000), "1" + strings.Repeat(":", 100000) + "0", strings.Repeat("0", 100000) + "1:0", "1:" + strings.Repeat("9", 100000),
	}
	for s, isPlan := range edgePlans {
		if !isPlan {
			list = append(list, s)
		}
	}
	return append(list, slices.DeleteFunc(strangeTexts(), func(s string) bool { return s == "" })...)
}

func TestReadPlanRefusesOtherTexts(t *testing.T) {
	for _, s := range nearlyPlans() {
		list, ok := impl.ReadPlan(head(headOfPlans), s)
		expect(t, fmt.Sprintf("ReadPlan(%.60q)", s), results(list, ok), "[[] false]")
	}
	// What is a plan of one head may be none of another one.
	for s, isPlan := range map[string]bool{"": true, "1:0": true, "1:1": false, "1:0,1": false, "2:0": false, "0:0": false} {
		list, ok := impl.ReadPlan(head("1/1|1,1,1|1|0,0"), s)
		want := results(list, false)
		if isPlan {
			want = results(stops(s), true)
		}
		expect(t, "ReadPlan("+s+")", results(list, ok), want)
	}
}
