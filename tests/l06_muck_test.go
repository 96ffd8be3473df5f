package tests

import (
	"fmt"
	"math"
	"math/rand"
	"slices"
	"testing"

	"loop.example/g01099/impl"
)

// mostWeight is the greatest weight, allowance and limit.
const mostWeight = 1000000

// badWeights are no weights, and neither allowances nor limits.
func badWeights() []int64 {
	return []int64{-1, -2, -mostWeight, mostWeight + 1, math.MaxInt64, math.MinInt64}
}

// sequence is some rings that follow one another, and their excess.
type sequence struct{ first, last, excess int64 }

// sequencesOf returns all sequences of the rings of a balance, ordered by their first and then by their last ring.
func sequencesOf(balance []int64, allowance int64) []sequence {
	var list []sequence
	for first := range balance {
		excess := int64(0)
		for last := first; last < len(balance); last++ {
			excess += balance[last] - allowance
			list = append(list, sequence{int64(first), int64(last), excess})
		}
	}
	return list
}

// sumsOf returns for each ring the greatest excess of the sequences that end with it, or 0 if none is greater.
func sumsOf(balance []int64, allowance int64) []int64 {
	sums := make([]int64, len(balance))
	for _, s := range sequencesOf(balance, allowance) {
		sums[s.last] = max(sums[s.last], s.excess)
	}
	return sums
}

// greatestExcess returns the first sequence with the greatest excess.
func greatestExcess(balance []int64, allowance int64) string {
	list := sequencesOf(balance, allowance)
	if len(list) == 0 {
		return "[0 0 0 false]"
	}
	best := slices.MaxFunc(list, func(a, b sequence) int { return int(a.excess - b.excess) })
	return results(best.first, best.last, best.excess, true)
}

// firstAlarm returns where the alarm begins and is raised: at the earliest end of all sequences that exceed the limit.
func firstAlarm(balance []int64, allowance, limit int64) string {
	raised := int64(-1)
	for _, s := range sequencesOf(balance, allowance) {
		if s.excess > limit && (raised < 0 || s.last < raised) {
			raised = s.last
		}
	}
	if raised < 0 {
		return "[0 0 false]"
	}
	begin := int64(0)
	for ring, sum := range sumsOf(balance, allowance)[:raised] {
		if sum == 0 {
			begin = int64(ring) + 1
		}
	}
	return results(begin, raised, true)
}

// leastAllowance returns the least allowance with which no sequence exceeds the limit: each one needs a number of its own.
func leastAllowance(balance []int64, limit int64) int64 {
	least := int64(0)
	for _, s := range sequencesOf(balance, 0) {
		rings := s.last - s.first + 1
		// Rounded up, so that the excess of the rings is not above the limit.
		if need := s.excess - limit; need > 0 {
			least = max(least, (need+rings-1)/rings)
		}
	}
	return least
}

// checkMuck compares what the functions say of a balance with what all its sequences say.
func checkMuck(t *testing.T, balance []int64, allowance, limit int64) {
	t.Helper()
	call := fmt.Sprintf("(%v, %d, %d)", balance, allowance, limit)
	sums, ok := impl.SumsOf(balance, allowance)
	expect(t, "SumsOf"+call, results(sums, ok), results(sumsOf(balance, allowance), true))
	first, last, excess, ok := impl.GreatestExcess(balance, allowance)
	expect(t, "GreatestExcess"+call, results(first, last, excess, ok), greatestExcess(balance, allowance))
	begin, raised, alarm := impl.AlarmOf(balance, allowance, limit)
	expect(t, "AlarmOf"+call, results(begin, raised, alarm), firstAlarm(balance, allowance, limit))
	if alarm != (ok && excess > limit) {
		t.Errorf("AlarmOf%s: got %v, and the greatest excess is %d", call, alarm, excess)
	}
	least, ok := impl.LeastAllowance(balance, limit)
	expect(t, "LeastAllowance"+call, results(least, ok), results(leastAllowance(balance, limit), true))
	_, _, alarm = impl.AlarmOf(balance, least, limit)
	if alarm {
		t.Errorf("with the allowance %d of LeastAllowance%s there is an alarm", least, call)
	}
	if _, _, alarm = impl.AlarmOf(balance, least-1, limit); least > 0 && !alarm {
		t.Errorf("below the allowance %d of LeastAllowance%s there is no alarm", least, call)
	}
}

func TestAlarmsOfSmallBalances(t *testing.T) {
	for _, balance := range smallLists([]int64{-2, 0, 1, 3}, 6) {
		for allowance := range int64(3) {
			for _, limit := range []int64{0, 2, 5} {
				checkMuck(t, balance, allowance, limit)
			}
		}
	}
}

func TestAlarmsOfGreatBalances(t *testing.T) {
	random := rand.New(rand.NewSource(64))
	counts := map[bool]int{}
	for range 1500 {
		most := []int64{3, 100, mostWeight}[random.Intn(3)]
		balance := make([]int64, random.Intn(61))
		for i := range balance {
			balance[i] = random.Int63n(2*most+1) - most
		}
		allowance := random.Int63n(most/4 + 1)
		limit := min(random.Int63n(most+1)*int64(random.Intn(5)), mostWeight)
		checkMuck(t, balance, allowance, limit)
		_, _, alarm := impl.AlarmOf(balance, allowance, limit)
		counts[alarm]++
	}
	if counts[true] < 200 || counts[false] < 200 {
		t.Errorf("%d balances have an alarm, and %d have none", counts[true], counts[false])
	}
}

func TestAlarmsAtTheirLimits(t *testing.T) {
	for _, balance := range [][]int64{
		{}, {0}, {mostWeight}, {-mostWeight}, {mostWeight, -mostWeight}, {-mostWeight, mostWeight},
		repeated(mostWeight, 60), repeated(-mostWeight, 60), repeated(1, 60), repeated(0, 60), repeated(-1, 60),
	} {
		for _, allowance := range []int64{0, 1, mostWeight - 1, mostWeight} {
			for _, limit := range []int64{0, 1, 59, 60, mostWeight - 1, mostWeight} {
				checkMuck(t, balance, allowance, limit)
			}
		}
	}
}

func TestSumsOf(t *testing.T) {
	for _, c := range []struct {
		balance   string
		allowance int64
		want      string
	}{
		{"3,-9,5,4", 1, "[[2 0 4 7] true]"},
		{"3,-9,5,4", 0, "[[3 0 5 9] true]"},
		{"", 1, "[[] true]"},
		// Sums that become exactly 0, and sums that would be negative.
		{"3,-3,2", 0, "[[3 0 2] true]"},
		{"3,-4,2", 0, "[[3 0 2] true]"},
		{"3,-2,2", 0, "[[3 1 3] true]"},
		{"2,0,3", 1, "[[1 0 2] true]"},
		{"2,-1,3", 1, "[[1 0 2] true]"},
		{"1,1", 1, "[[0 0] true]"},
		{"-5,-5,6", 0, "[[0 0 6] true]"},
		{"1000000,1000000", 0, "[[1000000 2000000] true]"},
		{"1000000,1000000", mostWeight, "[[0 0] true]"},
	} {
		sums, ok := impl.SumsOf(plan(c.balance), c.allowance)
		expect(t, fmt.Sprintf("SumsOf(%s, %d)", c.balance, c.allowance), results(sums, ok), c.want)
	}
}

func TestAlarmOf(t *testing.T) {
	for _, c := range []struct {
		balance          string
		allowance, limit int64
		want             string
	}{
		{"3,-9,5,4", 1, 6, "[2 3 true]"},
		// A limit that is met exactly is not exceeded.
		{"3,-9,5,4", 1, 7, "[0 0 false]"},
		{"5", 0, 5, "[0 0 false]"},
		{"5", 0, 4, "[0 0 true]"},
		{"5", 1, 4, "[0 0 false]"},
		{"0,0", 0, 0, "[0 0 false]"},
		// An alarm at the ring 0, and one that begins there.
		{"3,-9,5,4", 1, 1, "[0 0 true]"},
		{"1,1,1", 0, 2, "[0 2 true]"},
		{"2,-1,5", 0, 5, "[0 2 true]"},
		// It begins behind the last ring whose sum is 0, exactly or instead of a negative number.
		{"2,-2,5", 0, 4, "[2 2 true]"},
		{"2,-3,5", 0, 4, "[2 2 true]"},
		{"2,-2,1,-1,3,3", 0, 5, "[4 5 true]"},
		{"0,5", 0, 4, "[1 1 true]"},
		{"0,0,2,2,-4,9", 0, 3, "[2 3 true]"},
		// The first ring counts, and not the one with the greatest sum.
		{"4,5,6", 0, 3, "[0 0 true]"},
		{"", 0, 0, "[0 0 false]"},
		{"1000000", 0, mostWeight, "[0 0 false]"},
		{"1000000,1", 0, mostWeight, "[0 1 true]"},
	} {
		begin, raised, ok := impl.AlarmOf(plan(c.balance), c.allowance, c.limit)
		expect(t, fmt.Sprintf("AlarmOf(%s, %d, %d)", c.balance, c.allowance, c.limit), results(begin, raised, ok), c.want)
	}
}

func TestGreatestExcess(t *testing.T) {
	for _, c := range []struct {
		balance   string
		allowance int64
		want      string
	}{
		{"3,-9,5,4", 1, "[2 3 7 true]"},
		{"", 0, "[0 0 0 false]"},
		// A greatest excess that is negative, or 0.
		{"-3,-2", 0, "[1 1 -2 true]"},
		{"-2,-3,-2", 0, "[0 0 -2 true]"},
		{"-3,0,-1", 0, "[1 1 0 true]"},
		{"1,1", 3, "[0 0 -2 true]"},
		{"-1000000", mostWeight, "[0 0 -2000000 true]"},
		// Of several sequences, the first one with the earliest end.
		{"0,0,0", 0, "[0 0 0 true]"},
		{"5,0,0", 0, "[0 0 5 true]"},
		{"0,5,0", 0, "[0 1 5 true]"},
		{"2,-2,5", 0, "[0 2 5 true]"},
		{"-1,2,-2,5,-5,5", 0, "[1 3 5 true]"},
		{"5,-6,5", 0, "[0 0 5 true]"},
		{"5,-5,5", 0, "[0 0 5 true]"},
		{"1,-2,0,1", 0, "[0 0 1 true]"},
		{"-1,0,1", 0, "[1 2 1 true]"},
		{"3,-3,3", 1, "[0 0 2 true]"},
		{"2,0,2", 1, "[0 0 1 true]"},
	} {
		first, last, excess, ok := impl.GreatestExcess(plan(c.balance), c.allowance)
		expect(t, fmt.Sprintf("GreatestExcess(%s, %d)", c.balance, c.allowance), results(first, last, excess, ok), c.want)
	}
}

func TestLeastAllowance(t *testing.T) {
	for _, c := range []struct {
		balance string
		limit   int64
		want    string
	}{
		{"3,-9,5,4", 7, "[1 true]"},
		{"3,-9,5,4", 9, "[0 true]"},
		{"3,-9,5,4", 8, "[1 true]"},
		{"3,-9,5,4", 6, "[2 true]"},
		{"3,-9,5,4", 0, "[5 true]"},
		{"", 0, "[0 true]"},
		{"0,-5", 0, "[0 true]"},
		{"1", 0, "[1 true]"},
		{"1", 1, "[0 true]"},
		// The greatest allowance, and the one below it.
		{"1000000", 0, "[1000000 true]"},
		{"1000000", 1, "[999999 true]"},
		{"-1000000,1000000,-1000000", 0, "[1000000 true]"},
		{"1000000,1000000", mostWeight, "[500000 true]"},
		{"1000000", mostWeight, "[0 true]"},
	} {
		least, ok := impl.LeastAllowance(plan(c.balance), c.limit)
		expect(t, fmt.Sprintf("LeastAllowance(%s, %d)", c.balance, c.limit), results(least, ok), c.want)
	}
	least, ok := impl.LeastAllowance(repeated(mostWeight, 60), 0)
	expect(t, "LeastAllowance of the greatest balance", results(least, ok), "[1000000 true]")
	least, ok = impl.LeastAllowance(repeated(mostWeight, 60), mostWeight)
	expect(t, "LeastAllowance of the greatest balance", results(least, ok), "[983334 true]")
}

func TestFunctionsRefuseBadBalances(t *testing.T) {
	bad := [][]int64{repeated(0, 61), repeated(0, 62), repeated(0, 100000), repeated(mostWeight, 61)}
	for _, n := range append(badWeights(), -mostWeight-1) {
		if n >= -mostWeight && n <= mostWeight {
			continue
		}
		late := repeated(0, 60)
		late[59] = n
		bad = append(bad, []int64{n}, []int64{n, 0}, []int64{0, n, 0}, late)
	}
	for _, balance := range bad {
		sums, one := impl.SumsOf(balance, 0)
		begin, raised, two := impl.AlarmOf(balance, 0, 0)
		first, last, excess, three := impl.GreatestExcess(balance, 0)
		least, four := impl.LeastAllowance(balance, 0)
		got := results(sums, one, begin, raised, two, first, last, excess, three, least, four)
		expect(t, fmt.Sprintf("the balance %.60s", fmt.Sprint(balance)), got, "[[] false 0 0 false 0 0 0 false 0 false]")
	}
}

func TestFunctionsRefuseBadAllowancesAndLimits(t *testing.T) {
	balance := []int64{5, -1, 7}
	for _, n := range badWeights() {
		sums, one := impl.SumsOf(balance, n)
		first, last, excess, two := impl.GreatestExcess(balance, n)
		got := results(sums, one, first, last, excess, two)
		expect(t, fmt.Sprintf("the allowance %d", n), got, "[[] false 0 0 0 false]")
		for _, good := range []int64{0, mostWeight} {
			begin, raised, one := impl.AlarmOf(balance, n, good)
			from, at, two := impl.AlarmOf(balance, good, n)
			expect(t, fmt.Sprintf("AlarmOf with %d", n), results(begin, raised, one, from, at, two), "[0 0 false 0 0 false]")
		}
		least, ok := impl.LeastAllowance(balance, n)
		none, also := impl.LeastAllowance(nil, n)
		expect(t, fmt.Sprintf("the limit %d", n), results(least, ok, none, also), "[0 false 0 false]")
		sums, one = impl.SumsOf(nil, n)
		_, _, two = impl.AlarmOf(nil, 0, n)
		expect(t, fmt.Sprintf("an empty balance with %d", n), results(sums, one, two), "[[] false false]")
	}
}

func TestBalanceOf(t *testing.T) {
	for _, c := range []struct{ weighed, expected, want string }{
		{"10,20", "12,15", "[[-2 5] true]"},
		{"12,15", "10,20", "[[2 -5] true]"},
		{"7", "7", "[[0] true]"},
		{"", "", "[[] true]"},
		{"1000000,0", "0,1000000", "[[1000000 -1000000] true]"},
		{"10", "12,15", "[[] false]"},
		{"10,20", "12", "[[] false]"},
		{"", "12", "[[] false]"},
		{"10", "", "[[] false]"},
	} {
		balance, ok := impl.BalanceOf(plan(c.weighed), plan(c.expected))
		expect(t, fmt.Sprintf("BalanceOf(%s, %s)", c.weighed, c.expected), results(balance, ok), c.want)
	}
	for _, n := range []int{59, 60, 61, 62, 100000} {
		want := results(repeated(2, n), true)
		if n > 60 {
			want = "[[] false]"
		}
		balance, ok := impl.BalanceOf(repeated(5, n), repeated(3, n))
		expect(t, fmt.Sprintf("BalanceOf %d rings", n), results(balance, ok), want)
	}
	for _, n := range badWeights() {
		for _, list := range [][]int64{{n, 5, 5}, {5, n, 5}, {5, 5, n}} {
			one, is := impl.BalanceOf(list, repeated(5, 3))
			two, also := impl.BalanceOf(repeated(5, 3), list)
			same, even := impl.BalanceOf(list, list)
			expect(t, fmt.Sprintf("BalanceOf with %d", n), results(one, is, two, also, same, even), "[[] false [] false [] false]")
		}
	}
	random := rand.New(rand.NewSource(65))
	for range 500 {
		weighed, expected := make([]int64, 60), make([]int64, 60)
		var want []int64
		for i := range 60 {
			weighed[i], expected[i] = random.Int63n(mostWeight+1), random.Int63n(mostWeight+1)
			want = append(want, weighed[i]-expected[i])
		}
		balance, ok := impl.BalanceOf(weighed, expected)
		expect(t, "BalanceOf", results(balance, ok), results(want, true))
		// What is returned is a balance, of which there are sums.
		_, ok = impl.SumsOf(balance, 0)
		expect(t, "SumsOf the balance", results(ok), "[true]")
	}
}
