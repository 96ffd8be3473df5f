package tests

import (
	"fmt"
	"math"
	"slices"
	"testing"
)

// results shows all results of a call as one text; nil and empty lists are the same value.
func results(list ...any) string { return fmt.Sprintf("%v", list) }

func expect(t *testing.T, call, got, want string) {
	t.Helper()
	if got != want {
		t.Errorf("%s: got %s, want %s", call, got, want)
	}
}

// guard is the fill of the unused capacity of guarded lists.
const guard = -987654321

// guarded returns a copy of a list with unused capacity, and a function that fails the test if the list or this capacity has changed.
func guarded(t *testing.T, list []int64) ([]int64, func(call string)) {
	return guardedBy(t, list, guard)
}

// guardedBy is guarded for lists of other values; fill is in the unused capacity.
func guardedBy[T comparable](t *testing.T, list []T, fill T) ([]T, func(call string)) {
	whole := append(slices.Clone(list), fill, fill, fill)
	before := slices.Clone(whole)
	return whole[:len(list)], func(call string) {
		t.Helper()
		if !slices.Equal(whole, before) {
			t.Errorf("%s changed its argument: %v is now %v", call, before, whole)
		}
	}
}

// repeated returns a list of n equal numbers.
func repeated(number int64, n int) []int64 { return slices.Repeat([]int64{number}, n) }

// strangeNumbers are at, next to and far from the limits of the package, and of int64.
func strangeNumbers() []int64 {
	list := []int64{math.MinInt64, math.MinInt64 + 1, math.MaxInt64, math.MaxInt64 - 1, math.MaxInt32, math.MinInt32}
	for _, n := range []int64{0, 1, 2, 3, 64, 65, 257, 99990, 99991, 99992, 999999999, 1000000000, 1000000001, 999999999999999999, 1000000000000000000, 1000000000000000001} {
		list = append(list, n, -n)
	}
	return list
}

// strangeTexts are empty, long, no valid UTF-8, or nearly as the package wants them.
func strangeTexts() []string {
	long := string(slices.Repeat([]byte("1,"), 100000))
	return []string{"", " ", "-", "--", ",", "\x00", "\xff\xfe", "ä", "é1", "1e3", "0x10", "1_000", "+1", "-0", "٣", "1,", ",1", "1,-", "NaN", long, string(slices.Repeat([]byte("9"), 100000))}
}
