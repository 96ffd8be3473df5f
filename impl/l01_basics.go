package impl

import (
	"cmp"
	"math/bits"
	"slices"
	"strconv"
	"strings"
)

// Limits of chapter 1.
const (
	MaxName    = 12
	MaxValue   = 1000000000
	MaxProduct = 1000000000000000000
	MaxItems   = 64
	CheckBase  = 99991
)

const (
	emptyListText = "-"
	checkFactor   = 257
	// The greatest root is MaxValue, which has 30 bits.
	highestRootBit = 1 << 29
)

// within reports whether x is from least to most.
func within[T cmp.Ordered](x, least, most T) bool {
	return least <= x && x <= most
}

// every reports whether all elements of a list are good.
func every[T any](list []T, good func(T) bool) bool {
	for _, x := range list {
		if !good(x) {
			return false
		}
	}
	return true
}

// everyTwo reports whether all pairs of neighbouring elements of a list are good.
func everyTwo[T any](list []T, good func(before, after T) bool) bool {
	for i := 1; i < len(list); i++ {
		if !good(list[i-1], list[i]) {
			return false
		}
	}
	return true
}

// numbersWith returns the numbers from least to most that are good, in increasing order.
func numbersWith(least, most int64, good func(int64) bool) []int64 {
	var list []int64
	for n := least; n <= most; n++ {
		if good(n) {
			list = append(list, n)
		}
	}
	return list
}

// joinTexts returns the texts of all elements of a list, with sep between two of them.
func joinTexts[T any](list []T, sep string, text func(T) string) string {
	var b strings.Builder
	for i, x := range list {
		if i > 0 {
			b.WriteString(sep)
		}
		b.WriteString(text(x))
	}
	return b.String()
}

// splitTexts returns the list of 1 to most elements whose texts, with sep between two of them, are s.
func splitTexts[T any](s, sep string, most int, read func(string) (T, bool)) ([]T, bool) {
	// One word more than allowed shows that there are too many, however long the text is.
	words := strings.SplitN(s, sep, most+1)
	if len(words) > most {
		return nil, false
	}
	list := make([]T, 0, len(words))
	for _, word := range words {
		x, ok := read(word)
		if !ok {
			return nil, false
		}
		list = append(list, x)
	}
	return list, true
}

// splitAnyTexts is splitTexts for lists that may be empty, whose text is then empty.
func splitAnyTexts[T any](s, sep string, most int, read func(string) (T, bool)) ([]T, bool) {
	if s == "" {
		return nil, true
	}
	return splitTexts(s, sep, most, read)
}

// bitNumbers returns the numbers of the bits of a set, in increasing order.
func bitNumbers(set uint64) []int64 {
	list := make([]int64, 0, bits.OnesCount64(set))
	for ; set != 0; set &= set - 1 {
		list = append(list, int64(bits.TrailingZeros64(set)))
	}
	return list
}

// absolute returns n without its sign.
func absolute(n int64) int64 { return max(n, -n) }

func isLetter(r rune) bool { return within(r, 'a', 'z') }

func isDigit(r rune) bool { return within(r, '0', '9') }

func isValue(n int64) bool { return within(n, -MaxValue, MaxValue) }

func isProduct(n int64) bool { return within(n, -MaxProduct, MaxProduct) }

func isList(list []int64) bool {
	return len(list) <= MaxItems && every(list, isValue)
}

// IsName reports whether s is a name.
func IsName(s string) bool {
	if !within(len(s), 1, MaxName) {
		return false
	}
	for i, r := range s {
		if !isLetter(r) && (i == 0 || !isDigit(r)) {
			return false
		}
	}
	return true
}

// Decimal returns n in decimal.
func Decimal(n int64) string { return strconv.FormatInt(n, 10) }

// ReadDecimal returns the number with the given decimal text.
func ReadDecimal(s string) (int64, bool) {
	n, err := strconv.ParseInt(s, 10, 64)
	// ParseInt also reads plus signs, leading zeros and -0, which Decimal never writes.
	if err != nil || !isValue(n) || Decimal(n) != s {
		return 0, false
	}
	return n, true
}

func canDivide(a, b int64) bool {
	return isProduct(a) && within(b, 1, MaxValue)
}

// DivFloor returns a / b, rounded down.
func DivFloor(a, b int64) (int64, bool) {
	if !canDivide(a, b) {
		return 0, false
	}
	quotient := a / b
	if a%b < 0 {
		quotient--
	}
	return quotient, true
}

// DivRound returns the integer nearest to a / b.
func DivRound(a, b int64) (int64, bool) {
	if !canDivide(a, b) {
		return 0, false
	}
	// The quotient is rounded towards 0, so that a half always leads away from it.
	quotient, rest := a/b, a%b
	switch {
	case 2*rest >= b:
		quotient++
	case -2*rest >= b:
		quotient--
	}
	return quotient, true
}

// RootFloor returns the square root of n, rounded down.
func RootFloor(n int64) (int64, bool) {
	if !within(n, 0, MaxProduct) {
		return 0, false
	}
	root := int64(0)
	for bit := int64(highestRootBit); bit > 0; bit >>= 1 {
		if next := root + bit; next*next <= n {
			root = next
		}
	}
	return root, true
}

// CompareRatios compares a / b with c / d.
func CompareRatios(a, b, c, d int64) (int64, bool) {
	if !isProduct(a) || !isProduct(c) || !within(b, 1, MaxProduct) || !within(d, 1, MaxProduct) {
		return 0, false
	}
	switch {
	case a < 0 && c < 0:
		return compareProducts(-c, b, -a, d), true
	case a < 0 || c < 0:
		return int64(cmp.Compare(a, c)), true
	}
	return compareProducts(a, d, c, b), true
}

// compareProducts compares a b with c d, of numbers that are not negative.
func compareProducts(a, b, c, d int64) int64 {
	// The products may need two words.
	leftHigh, leftLow := bits.Mul64(uint64(a), uint64(b))
	rightHigh, rightLow := bits.Mul64(uint64(c), uint64(d))
	if leftHigh != rightHigh {
		return int64(cmp.Compare(leftHigh, rightHigh))
	}
	return int64(cmp.Compare(leftLow, rightLow))
}

// SplitEven divides a total into nearly equal parts.
func SplitEven(total, parts int64) ([]int64, bool) {
	if !within(total, 0, MaxValue) || !within(parts, 1, MaxItems) {
		return nil, false
	}
	list := make([]int64, parts)
	for i := range parts {
		list[i] = (i+1)*total/parts - i*total/parts
	}
	return list, true
}

// MiddleOf returns the middle number of a list.
func MiddleOf(list []int64) (int64, bool) {
	if len(list) == 0 || !isList(list) {
		return 0, false
	}
	sorted := slices.Clone(list)
	slices.Sort(sorted)
	return sorted[(len(sorted)-1)/2], true
}

// LongestRun returns where the longest run of great numbers begins, and its length.
func LongestRun(list []int64, least int64) (int64, int64, bool) {
	if !isList(list) {
		return 0, 0, false
	}
	var first, longest, run int
	for i, n := range list {
		if n < least {
			run = 0
			continue
		}
		run++
		// Only a longer run replaces the one before, so that the first of several stays.
		if run > longest {
			first, longest = i+1-run, run
		}
	}
	return int64(first), int64(longest), longest > 0
}

// ListText returns the text of a list.
func ListText(list []int64) (string, bool) {
	if !isList(list) {
		return "", false
	}
	if len(list) == 0 {
		return emptyListText, true
	}
	return joinTexts(list, ",", Decimal), true
}

// ReadList returns the list with the given text.
func ReadList(s string) ([]int64, bool) {
	if s == emptyListText {
		return nil, true
	}
	return splitTexts(s, ",", MaxItems, ReadDecimal)
}

// CheckOf returns the check number of a text.
func CheckOf(start int64, s string) (int64, bool) {
	if !within(start, 0, CheckBase-1) {
		return 0, false
	}
	check := start
	for i := range len(s) {
		check = (checkFactor*check + int64(s[i]) + 1) % CheckBase
	}
	return check, true
}
