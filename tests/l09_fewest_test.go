package tests

import (
	"slices"
	"testing"

	"loop.example/g01099/impl"
)

// arrival is a yard, and the least plan that leads to it.
type arrival struct {
	y    impl.Yard
	list [][]int64
}

// fewestMoves goes from all yards that can be reached with some moves to all that can be reached with one more, in the order of their plans.
func fewestMoves(y impl.Yard) ([][]int64, bool) {
	level := []arrival{{y: settled(y)}}
	seen := map[string]bool{}
	for len(level) > 0 {
		var next []arrival
		for _, a := range level {
			from, _ := nextIn(a.y)
			if from < 0 {
				return a.list, true
			}
			for to := range a.y.Stacks {
				after, ok := moved(a.y, int64(from), int64(to))
				after = settled(after)
				if name := yardText(after); ok && !seen[name] {
					seen[name] = true
					next = append(next, arrival{after, append(slices.Clone(a.list), []int64{int64(from), int64(to)})})
				}
			}
		}
		level = next
	}
	return nil, false
}

// everyPlan tries all moves behind a plan, in ascending order, and returns all plans that empty a yard. RunMoves must carry out each of them, and refuse all other ones.
func everyPlan(t *testing.T, y impl.Yard, list [][]int64) [][][]int64 {
	t.Helper()
	after, ok := afterMoves(y, list)
	got, is := impl.RunMoves(y, list)
	if ok != is || yardText(got) != yardText(after) {
		t.Errorf("RunMoves(%s, %v): got %s", yardText(y), list, shownYard(got, is))
	}
	if !ok {
		return nil
	}
	var plans [][][]int64
	if from, _ := nextIn(after); from < 0 {
		plans = append(plans, list)
	}
	for from := range y.Stacks {
		for to := range y.Stacks {
			more := append(slices.Clone(list), []int64{int64(from), int64(to)})
			plans = append(plans, everyPlan(t, y, more)...)
		}
	}
	return plans
}

// checkFewest compares the plan with the fewest moves with what is expected, and returns how many moves there are, or -1.
func checkFewest(t *testing.T, y impl.Yard, want [][]int64, isPossible bool) int {
	t.Helper()
	list, ok := impl.FewestMoves(y)
	expect(t, "FewestMoves("+yardText(y)+")", results(list, ok), results(want, isPossible))
	if !ok {
		return -1
	}
	after, is := impl.RunMoves(y, list)
	if !is || len(slices.Concat(after.Stacks...)) > 0 || len(after.Stacks) != len(y.Stacks) || after.Height != y.Height {
		t.Errorf("RunMoves(%s, %v): got %s", yardText(y), list, shownYard(after, is))
	}
	return len(list)
}

// TestFewestMovesOfAllPlans tries all plans of small yards one by one.
func TestFewestMovesOfAllPlans(t *testing.T) {
	none, equal, more := 0, 0, 0
	yards := append(smallYards(), allYards(2, 3, 5)...)
	yards = append(yards, allYards(3, 2, 5)...)
	yards = append(yards, allYards(2, 4, 4)...)
	for _, y := range yards {
		var best [][]int64
		count := 0
		plans := everyPlan(t, y, nil)
		for i, list := range plans {
			if i == 0 || len(list) < len(best) {
				best, count = list, 0
			}
			if len(list) == len(best) {
				count++
			}
		}
		steps := checkFewest(t, y, best, len(plans) > 0)
		switch {
		case steps < 0:
			none++
		case steps > len(blockersOf(y)):
			more++
		case count > 1:
			equal++
		}
	}
	if none < 100 || equal < 100 || more < 100 {
		t.Errorf("%d yards cannot be emptied, %d have several best plans, and in %d a lot is moved again", none, equal, more)
	}
}

func TestFewestMovesOfManyLots(t *testing.T) {
	var yards []impl.Yard
	for _, x := range [][3]int{{3, 3, 6}, {4, 2, 6}, {2, 4, 6}, {3, 2, 6}} {
		yards = append(yards, allYards(x[0], x[1], x[2])...)
	}
	again := 0
	for _, y := range append(sampleYards(), yards...) {
		want, ok := fewestMoves(y)
		if checkFewest(t, y, want, ok) > len(blockersOf(y)) {
			again++
		}
	}
	if again < 1000 {
		t.Errorf("in %d yards a lot is moved again", again)
	}
}

func TestFewestMoves(t *testing.T) {
	for s, want := range map[string]string{
		"1:-": "", "4:-|-|-|-": "", "1:0": "", "1:3|2|1|0": "", "4:3,2,1,0": "", "4:3,2|1,0|6,5,4|-": "", "4:99,98": "", "2:1|0": "", "1:0|1": "",
		"2:0,1|-": "0>1", "2:-|0,1": "1>0", "2:99|0,1": "1>0", "2:3|1,2": "1>0",
		// Of several plans with as few moves, the least one is returned.
		"2:0,1|-|-": "0>1", "2:-|0,1|-": "1>0", "2:-|-|-|0,1": "3>0", "4:0,1,2|-": "0>1 0>1", "3:0,1,2|-|-": "0>1 0>1", "3:0,3|2,4|1": "0>1 1>0 1>2", "2:0,2|1,3|-": "0>2 1>0", "2:0,1|2,3|-": "0>2 1>0",
		// Where a lot is put decides whether it must be moved again.
		"3:0,2|1|-": "0>2", "3:0,2|3|1": "0>1", "3:0,2,1|-|-|-": "0>1 0>2", "4:-|0,1,2": "1>0 1>0", "4:0,1,2,3|-": "0>1 0>1 0>1", "4:0,2,1|-": "0>1 0>1 1>0",
		// Lots that are taken make room.
		"2:1,0|2,3": "1>0", "2:2,3|1,0": "0>1", "2:0|1,2": "1>0", "2:3,0|1,2": "1>0", "2:0,1|3,2|-": "0>2", "3:0,5|1,6|2,4,3": "0>1 1>0 1>0 2>0 2>1 0>1",
	} {
		checkFewest(t, yard(s), moves(want), true)
	}
	for _, s := range []string{
		"2:0,1", "4:0,1", "4:0,1,2,3", "3:1,0,2", "4:3,0,1", "4:98,99", "2:0,1|2,3", "2:0,1|3,2", "2:2,3|0,1", "3:2,0,1|3,4,5", "3:5,0,1|4,3,2", "3:0,2,1|3,4", "3:0,1,2|3,4",
		"2:0,1|2,3|4,5", "2:5,4|3,2|0,1", "4:0,1,2,3|4,5,6", "4:1,4,5,6|0,2,3",
	} {
		checkFewest(t, yard(s), nil, false)
	}
}

// TestLotsThatBlockEachOther has yards in which lots must be moved more than once.
func TestLotsThatBlockEachOther(t *testing.T) {
	for s, want := range map[string]string{
		"3:1,3|2,0,4":       "1>0 0>1 0>1 1>0 1>0 0>1",
		"3:3,1,5|2,4,0":     "0>1 1>0 1>0 0>1 0>1 1>0",
		"4:3,1,5|2,4,0,6":   "1>0 0>1 0>1 1>0 1>0 1>0 0>1 0>1 0>1 1>0 1>0 0>1",
		"3:-|2|1,6,5|0,4,3": "3>0 3>0 2>0 2>3 0>1 0>1",
		"4:2|1,3|0,4,5,6":   "2>0 2>0 2>1 1>2 1>2 0>1 0>1 1>0",
	} {
		y := yard(s)
		if steps := checkFewest(t, y, moves(want), true); steps <= len(blockersOf(y)) {
			t.Errorf("in %s no lot is moved again", s)
		}
	}
}
