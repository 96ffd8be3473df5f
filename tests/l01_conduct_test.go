package tests

import (
	"fmt"
	"math"
	"slices"
	"strings"
	"testing"

	"loop.example/g01099/impl"
)

// failsToZero checks that a call that fails returns nothing else; lists of a call that fails are empty.
func failsToZero(t *testing.T, call string, ok bool, others ...any) {
	t.Helper()
	if ok {
		return
	}
	for _, x := range others {
		if s := fmt.Sprint(x); s != "0" && s != "" && s != "[]" && s != "false" {
			t.Errorf("%s fails and returns %s", call, s)
		}
	}
}

func basicsOfNumbers(t *testing.T, a, b, c, d int64) string {
	floor, one := impl.DivFloor(a, b)
	failsToZero(t, "DivFloor", one, floor)
	round, two := impl.DivRound(a, b)
	failsToZero(t, "DivRound", two, round)
	root, three := impl.RootFloor(a)
	failsToZero(t, "RootFloor", three, root)
	order, four := impl.CompareRatios(a, b, c, d)
	failsToZero(t, "CompareRatios", four, order)
	parts, five := impl.SplitEven(a, b)
	failsToZero(t, "SplitEven", five, parts)
	return results(impl.Decimal(a), floor, one, round, two, root, three, order, four, parts, five)
}

func basicsOfList(t *testing.T, list []int64, least int64) string {
	middle, one := impl.MiddleOf(list)
	failsToZero(t, "MiddleOf", one, middle)
	first, count, two := impl.LongestRun(list, least)
	failsToZero(t, "LongestRun", two, first, count)
	text, three := impl.ListText(list)
	failsToZero(t, "ListText", three, text)
	return results(middle, one, first, count, two, text, three)
}

func basicsOfText(t *testing.T, s string, start int64) string {
	n, one := impl.ReadDecimal(s)
	failsToZero(t, "ReadDecimal", one, n)
	list, two := impl.ReadList(s)
	failsToZero(t, "ReadList", two, list)
	check, three := impl.CheckOf(start, s)
	failsToZero(t, "CheckOf", three, check)
	return results(impl.IsName(s), n, one, list, two, check, three)
}

func TestBasicsReturnForAllNumbers(t *testing.T) {
	numbers := strangeNumbers()
	for _, a := range numbers {
		for _, b := range numbers {
			for _, d := range []int64{math.MinInt64, 0, 1, product} {
				first := basicsOfNumbers(t, a, b, b, d)
				expect(t, "the same numbers again", basicsOfNumbers(t, a, b, b, d), first)
			}
		}
	}
}

func TestBasicsLeaveTheirListsAsTheyWere(t *testing.T) {
	lists := append(brokenLists(), nil, []int64{}, []int64{3, 1, 2}, []int64{9, 8, 7, 6, 5}, []int64{value, -value, 0, value}, repeated(4, 64), strangeNumbers())
	descending := make([]int64, 64)
	for i := range descending {
		descending[i] = int64(64 - i)
	}
	for _, list := range append(lists, descending) {
		for _, least := range []int64{math.MinInt64, 0, 5, math.MaxInt64} {
			given, check := guarded(t, list)
			first := basicsOfList(t, given, least)
			check(fmt.Sprintf("a function of %v", list))
			expect(t, "an equal list", basicsOfList(t, slices.Clone(list), least), first)
			check(fmt.Sprintf("a function of %v", list))
		}
	}
}

func TestBasicsReturnForAllTexts(t *testing.T) {
	for _, s := range append(strangeTexts(), "a1", "7", "-7", "1,-2,3", strings.Repeat("5,", 63)+"5") {
		for _, start := range []int64{math.MinInt64, -1, 0, 1, 99990, 99991, math.MaxInt64} {
			first := basicsOfText(t, s, start)
			expect(t, "an equal text", basicsOfText(t, string([]byte(s)), start), first)
		}
	}
}

func TestNilAndEmptyListsAreTheSame(t *testing.T) {
	for _, least := range []int64{math.MinInt64, 0, math.MaxInt64} {
		expect(t, "an empty list", basicsOfList(t, []int64{}, least), basicsOfList(t, nil, least))
	}
}

func TestReturnedListsAreNew(t *testing.T) {
	split := func() []int64 { list, _ := impl.SplitEven(10, 3); return list }
	read := func() []int64 { list, _ := impl.ReadList("3,3,4"); return list }
	for _, call := range []func() []int64{split, read} {
		first, second := call(), call()
		for i := range first {
			first[i] = guard
		}
		_ = append(first[:0], guard, guard, guard)
		expect(t, "a list that was returned before", results(second, call()), "[[3 3 4] [3 3 4]]")
	}
}
