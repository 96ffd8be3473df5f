package tests

import (
	"fmt"
	"math"
	"math/big"
	"math/rand"
	"slices"
	"strings"
	"testing"

	"loop.example/g01099/impl"
)

// The limits as the document states them.
const (
	value   = int64(1000000000)
	product = int64(1000000000000000000)
)

func TestLimitsOfBasics(t *testing.T) {
	got := results(impl.MaxName, impl.MaxValue, impl.MaxProduct, impl.MaxItems, impl.CheckBase)
	expect(t, "limits", got, "[12 1000000000 1000000000000000000 64 99991]")
}

func TestIsName(t *testing.T) {
	for _, s := range []string{"a", "z", "m", "a0", "z9", "abc", "a1b2", "abcdefghijkl", "a00000000000"} {
		if !impl.IsName(s) {
			t.Errorf("%q is no name", s)
		}
	}
	for _, s := range []string{"", "0", "1a", "9", "A", "aA", "aZ", "a-", "a b", " a", "a ", "a_", "`", "{", "a`", "a{", "a/", "a:", "@", "a\x00", "a\n", "ä", "aä", "a\xff", "\xff", "aé", "a１", "abcdefghijklm", "a000000000000", "ääääääää"} {
		if impl.IsName(s) {
			t.Errorf("%q is a name", s)
		}
	}
	for b := range 256 {
		letter := 'a' <= b && b <= 'z'
		digit := '0' <= b && b <= '9'
		first, second := string([]byte{byte(b)}), string([]byte{'q', byte(b)})
		if impl.IsName(first) != letter || impl.IsName(second) != (letter || digit) {
			t.Errorf("the byte %d is wrong in names", b)
		}
	}
}

func TestDecimal(t *testing.T) {
	for _, n := range append(strangeNumbers(), 7, 10, 100, -10, 1234567890) {
		expect(t, "Decimal", impl.Decimal(n), fmt.Sprint(n))
	}
}

func TestReadDecimalReadsWhatDecimalWrites(t *testing.T) {
	for _, n := range append(strangeNumbers(), 9, 10, 11, -9, -10, 100, 123456789) {
		got, ok := impl.ReadDecimal(fmt.Sprint(n))
		want := results(n, true)
		if n < -value || n > value {
			want = results(0, false)
		}
		expect(t, fmt.Sprintf("ReadDecimal(%d)", n), results(got, ok), want)
	}
}

func TestReadDecimalRefusesOtherTexts(t *testing.T) {
	for _, s := range []string{"", "-", "+", "+1", "-0", "+0", "00", "01", "-01", "0001", " 1", "1 ", "1\n", "1.0", "1.", ".1", "1e3", "0x1", "0b1", "1_0", "1,2", "a", "--1", "1-", "٣", "１", "1\x00", "−1", "1000000001", "-1000000001", "9223372036854775808", "18446744073709551617", "99999999999999999999999", "01000000000"} {
		n, ok := impl.ReadDecimal(s)
		expect(t, fmt.Sprintf("ReadDecimal(%q)", s), results(n, ok), "[0 false]")
	}
}

// dividends are numbers whose quotients are whole, halves, next to halves, or far away from 0.
func dividends() []int64 {
	list := strangeNumbers()
	for n := int64(-40); n <= 40; n++ {
		list = append(list, n)
	}
	random := rand.New(rand.NewSource(1))
	for range 300 {
		list = append(list, random.Int63n(2*product+1)-product)
	}
	for _, b := range []int64{999999999, 1000000000, 99999998} {
		half := (product/b - 3) * b
		list = append(list, half, half+b/2-1, half+b/2, half+b/2+1, -half-b/2+1, -half-b/2, -half-b/2-1)
	}
	return list
}

func divisors() []int64 {
	return []int64{math.MinInt64, -value, -2, -1, 0, 1, 2, 3, 4, 5, 7, 8, 16, 99999998, 999999999, value, value + 1, product, math.MaxInt64}
}

func floorOf(a, b *big.Int) *big.Int {
	// Euclidean division is division rounded down for positive divisors.
	return new(big.Int).Div(a, b)
}

func roundOf(a, b int64) *big.Int {
	two := big.NewInt(2)
	size := new(big.Int).Abs(big.NewInt(a))
	size.Mul(size, two).Add(size, big.NewInt(b))
	size = floorOf(size, new(big.Int).Mul(two, big.NewInt(b)))
	if a < 0 {
		size.Neg(size)
	}
	return size
}

func TestQuotientsAreExact(t *testing.T) {
	for _, a := range dividends() {
		for _, b := range divisors() {
			low, lowOk := impl.DivFloor(a, b)
			near, nearOk := impl.DivRound(a, b)
			wantLow, wantNear := "[0 false]", "[0 false]"
			if -product <= a && a <= product && 1 <= b && b <= value {
				wantLow = results(floorOf(big.NewInt(a), big.NewInt(b)), true)
				wantNear = results(roundOf(a, b), true)
			}
			expect(t, fmt.Sprintf("DivFloor(%d, %d)", a, b), results(low, lowOk), wantLow)
			expect(t, fmt.Sprintf("DivRound(%d, %d)", a, b), results(near, nearOk), wantNear)
		}
	}
}

func TestHalvesAreRoundedAwayFromZero(t *testing.T) {
	cases := []struct{ a, b, floor, round int64 }{
		{7, 2, 3, 4}, {-7, 2, -4, -4}, {1, 2, 0, 1}, {-1, 2, -1, -1}, {5, 10, 0, 1}, {-5, 10, -1, -1},
		{4, 10, 0, 0}, {-4, 10, -1, 0}, {6, 10, 0, 1}, {-6, 10, -1, -1}, {1, 3, 0, 0}, {2, 3, 0, 1}, {-1, 3, -1, 0}, {-2, 3, -1, -1},
		{0, 1, 0, 0}, {0, value, 0, 0}, {-6, 3, -2, -2}, {product, 1, product, product}, {-product, 1, -product, -product},
		{product, value, value, value}, {-product, value, -value, -value}, {500000000, value, 0, 1}, {-500000000, value, -1, -1}, {499999999, value, 0, 0}, {-499999999, value, -1, 0},
	}
	for _, c := range cases {
		floor, ok := impl.DivFloor(c.a, c.b)
		round, too := impl.DivRound(c.a, c.b)
		expect(t, fmt.Sprintf("%d / %d", c.a, c.b), results(floor, ok, round, too), results(c.floor, true, c.round, true))
	}
}

func TestRootsAreExact(t *testing.T) {
	roots := []int64{0, 1, 2, 3, 4, 5, 10, 31622, 31623, 46340, 46341, 65535, 65536, 536870911, 536870912, 999999998, 999999999, value}
	random := rand.New(rand.NewSource(2))
	for range 500 {
		roots = append(roots, random.Int63n(value)+1)
	}
	for _, r := range roots {
		for _, n := range []int64{r*r - 1, r * r, r*r + 1, r*r + 2*r, r*r + 2*r + 1} {
			got, ok := impl.RootFloor(n)
			want := "[0 false]"
			if 0 <= n && n <= product {
				want = results(new(big.Int).Sqrt(big.NewInt(n)), true)
			}
			expect(t, fmt.Sprintf("RootFloor(%d)", n), results(got, ok), want)
		}
	}
	for _, n := range []int64{-1, math.MinInt64, product + 1, math.MaxInt64} {
		got, ok := impl.RootFloor(n)
		expect(t, fmt.Sprintf("RootFloor(%d)", n), results(got, ok), "[0 false]")
	}
	root := int64(0)
	for n := range int64(5000) {
		if (root+1)*(root+1) <= n {
			root++
		}
		got, ok := impl.RootFloor(n)
		expect(t, fmt.Sprintf("RootFloor(%d)", n), results(got, ok), results(root, true))
	}
}

func checkRatios(t *testing.T, a, b, c, d int64) {
	t.Helper()
	got, ok := impl.CompareRatios(a, b, c, d)
	want := "[0 false]"
	small := func(n int64) bool { return -product <= n && n <= product }
	if small(a) && small(b) && small(c) && small(d) && b > 0 && d > 0 {
		want = results(big.NewRat(a, b).Cmp(big.NewRat(c, d)), true)
	}
	expect(t, fmt.Sprintf("CompareRatios(%d, %d, %d, %d)", a, b, c, d), results(got, ok), want)
}

func TestRatiosAreComparedExactly(t *testing.T) {
	for _, a := range strangeNumbers() {
		for _, b := range strangeNumbers() {
			for _, c := range []int64{math.MinInt64, -product - 1, -product, 1 - product, -2, -1, 0, 1, 2, product - 1, product, product + 1} {
				for _, d := range []int64{math.MinInt64, -1, 0, 1, 2, product - 1, product, product + 1} {
					checkRatios(t, a, b, c, d)
				}
			}
		}
	}
	for a := int64(-5); a <= 5; a++ {
		for c := int64(-5); c <= 5; c++ {
			for b := int64(0); b <= 5; b++ {
				for d := int64(0); d <= 5; d++ {
					checkRatios(t, a, b, c, d)
				}
			}
		}
	}
}

func TestNearlyEqualRatios(t *testing.T) {
	random := rand.New(rand.NewSource(3))
	for range 500 {
		n := product - random.Int63n(1000)
		checkRatios(t, n, n-1, n-1, n-2)
		checkRatios(t, n-1, n, n-2, n-1)
		checkRatios(t, -n, n-1, 1-n, n-2)
		checkRatios(t, -n, n-1, n-1, n-2)
		k, small := random.Int63n(value)+1, random.Int63n(value)+1
		checkRatios(t, small, k, small*(value-1), k*(value-1))
		checkRatios(t, small, k, small*(value-1)-1, k*(value-1))
		checkRatios(t, random.Int63n(product)-product/2, random.Int63n(product)+1, random.Int63n(product)-product/2, random.Int63n(product)+1)
	}
}

func TestSplitEven(t *testing.T) {
	for _, total := range []int64{math.MinInt64, -1, 0, 1, 2, 10, 63, 64, 65, 1000, 123456789, value - 1, value, value + 1, math.MaxInt64} {
		for _, parts := range append(strangeNumbers(), 4, 5, 7, 10, 63) {
			list, ok := impl.SplitEven(total, parts)
			want := "[[] false]"
			if 0 <= total && total <= value && 1 <= parts && parts <= 64 {
				want = results(evenParts(total, parts), true)
			}
			expect(t, fmt.Sprintf("SplitEven(%d, %d)", total, parts), results(list, ok), want)
		}
	}
	list, ok := impl.SplitEven(10, 3)
	expect(t, "SplitEven(10, 3)", results(list, ok), "[[3 3 4] true]")
}

func evenParts(total, parts int64) []int64 {
	var list []int64
	before := int64(0)
	for i := int64(1); i <= parts; i++ {
		upTo := floorOf(big.NewInt(i*total), big.NewInt(parts)).Int64()
		list = append(list, upTo-before)
		before = upTo
	}
	return list
}

// smallLists returns all lists of at most most of the numbers.
func smallLists(numbers []int64, most int) [][]int64 {
	lists := [][]int64{nil}
	for first := 0; most > 0; most-- {
		last := len(lists)
		for _, list := range lists[first:last] {
			for _, n := range numbers {
				lists = append(lists, append(slices.Clone(list), n))
			}
		}
		first = last
	}
	return lists
}

// brokenLists are lists that are too long or have a number beyond a limit.
func brokenLists() [][]int64 {
	lists := [][]int64{repeated(5, 65), repeated(5, 1000), {math.MinInt64}, {math.MaxInt64}}
	for _, n := range []int64{value + 1, -value - 1} {
		last := repeated(5, 64)
		last[63] = n
		lists = append(lists, []int64{n}, []int64{n, 5}, []int64{5, n, 5}, last)
	}
	return lists
}

func TestMiddleOf(t *testing.T) {
	lists := append(smallLists([]int64{-3, 0, 2, 9}, 5), repeated(value, 64), repeated(-value, 63), []int64{value, -value}, []int64{5, 1, 9, 2})
	for _, list := range lists {
		got, ok := impl.MiddleOf(list)
		want := "[0 false]"
		if len(list) > 0 {
			sorted := slices.Sorted(slices.Values(list))
			want = results(sorted[(len(sorted)-1)/2], true)
		}
		expect(t, fmt.Sprintf("MiddleOf(%v)", list), results(got, ok), want)
	}
	for _, list := range brokenLists() {
		got, ok := impl.MiddleOf(list)
		expect(t, fmt.Sprintf("MiddleOf(%v)", list), results(got, ok), "[0 false]")
	}
}

// longestRun tries all sequences of the list, the longest ones first.
func longestRun(list []int64, least int64) string {
	for size := len(list); size > 0; size-- {
		for i := 0; i+size <= len(list); i++ {
			if slices.Min(list[i:i+size]) >= least {
				return results(i, size, true)
			}
		}
	}
	return "[0 0 false]"
}

func TestLongestRun(t *testing.T) {
	for _, list := range smallLists([]int64{-2, 0, 3}, 7) {
		for _, least := range []int64{-3, -2, -1, 0, 1, 3, 4} {
			i, n, ok := impl.LongestRun(list, least)
			expect(t, fmt.Sprintf("LongestRun(%v, %d)", list, least), results(i, n, ok), longestRun(list, least))
		}
	}
	long := repeated(value, 64)
	for _, least := range strangeNumbers() {
		i, n, ok := impl.LongestRun(long, least)
		expect(t, fmt.Sprintf("LongestRun of 64 numbers, %d", least), results(i, n, ok), longestRun(long, least))
	}
	i, n, ok := impl.LongestRun([]int64{1, 5, 6, 2, 7}, 5)
	expect(t, "LongestRun of the example", results(i, n, ok), "[1 2 true]")
	for _, list := range brokenLists() {
		i, n, ok := impl.LongestRun(list, 0)
		expect(t, fmt.Sprintf("LongestRun(%v, 0)", list), results(i, n, ok), "[0 0 false]")
	}
}

func TestListsAreReadFromTheirTexts(t *testing.T) {
	lists := append(smallLists([]int64{-value, -1, 0, 10, value}, 3), repeated(-value, 64), repeated(0, 63))
	for _, list := range lists {
		want := "-"
		if len(list) > 0 {
			want = strings.ReplaceAll(strings.Trim(fmt.Sprint(list), "[]"), " ", ",")
		}
		s, ok := impl.ListText(list)
		expect(t, fmt.Sprintf("ListText(%v)", list), results(s, ok), results(want, true))
		back, ok := impl.ReadList(want)
		expect(t, fmt.Sprintf("ReadList(%s)", want), results(back, ok), results(list, true))
	}
	for _, list := range brokenLists() {
		s, ok := impl.ListText(list)
		expect(t, fmt.Sprintf("ListText(%v)", list), results(s, ok), results("", false))
		text := strings.ReplaceAll(strings.Trim(fmt.Sprint(list), "[]"), " ", ",")
		back, ok := impl.ReadList(text)
		expect(t, fmt.Sprintf("ReadList(%s)", text), results(back, ok), "[[] false]")
	}
}

func TestReadListRefusesOtherTexts(t *testing.T) {
	for _, s := range []string{"", ",", "--", "-,", "-,1", "1,-", "1,", ",1", "1,,2", "1, 2", " 1", "1 ", "1;2", "[1,2]", "01", "1,+2", "1,-0", "1,02", "1000000001", "1,1000000001", "1,2\n", "a", "1,a", " -", "- ", "0x1", strings.Repeat(",", 63), strings.Repeat("1,", 64)} {
		list, ok := impl.ReadList(s)
		expect(t, fmt.Sprintf("ReadList(%q)", s), results(list, ok), "[[] false]")
	}
}

// checkNumber follows the document with numbers of any size.
func checkNumber(start int64, s string) int64 {
	sum := big.NewInt(start)
	for i := 0; i < len(s); i++ {
		sum.Mul(sum, big.NewInt(257)).Add(sum, big.NewInt(int64(s[i])+1))
	}
	return sum.Mod(sum, big.NewInt(99991)).Int64()
}

func TestCheckNumbers(t *testing.T) {
	texts := append(strangeTexts()[:15], "a", "b", "ab", "ba", "\x00\x00", "\xff\xff\xff", "build t3", "push 1 0 90000", strings.Repeat("\xff", 3000))
	for b := range 256 {
		texts = append(texts, string([]byte{byte(b)}))
	}
	for _, s := range texts {
		for _, start := range append(strangeNumbers(), 98, 50000) {
			got, ok := impl.CheckOf(start, s)
			want := "[0 false]"
			if 0 <= start && start < 99991 {
				want = results(checkNumber(start, s), true)
			}
			expect(t, fmt.Sprintf("CheckOf(%d, %q)", start, s), results(got, ok), want)
		}
	}
	got, ok := impl.CheckOf(0, "ab")
	expect(t, "CheckOf(0, ab)", results(got, ok), "[25285 true]")
}

func TestCheckNumbersAreComputedPartByPart(t *testing.T) {
	text := "push 1 0 90000\nbuild t3\x00\xff ä"
	for _, start := range []int64{0, 1, 5000, 99990} {
		whole, _ := impl.CheckOf(start, text)
		for i := range len(text) + 1 {
			first, one := impl.CheckOf(start, text[:i])
			both, two := impl.CheckOf(first, text[i:])
			expect(t, fmt.Sprintf("CheckOf in two parts at %d", i), results(both, one, two), results(whole, true, true))
		}
	}
	for _, start := range []int64{0, 1, 99990} {
		same, ok := impl.CheckOf(start, "")
		expect(t, "CheckOf an empty text", results(same, ok), results(start, true))
	}
}
