package tests

import (
	"fmt"
	"math"
	"math/rand"
	"slices"
	"strings"
	"testing"

	"loop.example/g01099/impl"
)

// orders returns the orders with a text such as 7:4 9:7, whether or not they are valid.
func orders(s string) []impl.Order {
	var list []impl.Order
	for _, word := range strings.Fields(s) {
		due, pieces, _ := strings.Cut(word, ":")
		list = append(list, impl.Order{Due: numbers(due)[0], Pieces: numbers(pieces)[0]})
	}
	return list
}

// works returns the works with a text such as 2,2,3, of the moulds, the cycle and the curing.
func works(s string) impl.Works {
	list := numbers(s)
	return impl.Works{Moulds: list[0], Cycle: list[1], Curing: list[2]}
}

func ordersAreValid(list []impl.Order) bool {
	before := int64(-1)
	for i, o := range list {
		if i == 8 || o.Due <= before || o.Due > 200 || o.Pieces < 1 || o.Pieces > 200 {
			return false
		}
		before = o.Due
	}
	return true
}

func worksAreValid(w impl.Works) bool {
	return areFrom(1, 200, w.Moulds) && areFrom(1, 10, w.Cycle) && areFrom(0, 40, w.Curing)
}

// stocks counts the days one by one: it returns for each day how many pieces have become ready, if all of them do so some days later, and how many of them are left.
func stocks(w impl.Works, late int64, list []impl.Order) (ready, left []int64) {
	var sum, wanted int64
	for day := range int64(201) {
		worked := day - late - w.Curing
		if worked > 0 && worked%w.Cycle == 0 {
			sum += w.Moulds
		}
		for _, o := range list {
			if o.Due == day {
				wanted += o.Pieces
			}
		}
		ready, left = append(ready, sum), append(left, sum-wanted)
	}
	return ready, left
}

// shortIn returns the Dues on which too few pieces are left.
func shortIn(left []int64, list []impl.Order) []int64 {
	var short []int64
	for _, o := range list {
		if left[o.Due] < 0 {
			short = append(short, o.Due)
		}
	}
	return short
}

// fewestMoulds tries one number of moulds after the other. The Due that needs the most is the first one that is short with one mould less.
func fewestMoulds(w impl.Works, list []impl.Order) string {
	w.Moulds = 0
	_, left := stocks(w, 0, list)
	before := shortIn(left, list)
	for w.Moulds = 1; w.Moulds <= 200 && len(before) > 0; w.Moulds++ {
		_, left := stocks(w, 0, list)
		short := shortIn(left, list)
		if len(short) == 0 {
			return results(w.Moulds, before[0], true)
		}
		before = short
	}
	return results(0, 0, false)
}

// latestStart puts off casting by one day more after the other.
func latestStart(w impl.Works, list []impl.Order) string {
	for late := int64(0); ; late++ {
		_, left := stocks(w, late, list)
		isShort := len(shortIn(left, list)) > 0
		switch {
		case isShort && late == 0:
			return results(0, false)
		case isShort:
			return results(late-1, true)
		case late == 200:
			return results(late, true)
		}
	}
}

// stockOn returns what is left on a day, if there was enough on it and before.
func stockOn(left []int64, day int64) string {
	if slices.Min(left[:day+1]) < 0 {
		return results(0, false)
	}
	return results(left[day], true)
}

func randomWorks(random *rand.Rand) impl.Works {
	return impl.Works{Moulds: random.Int63n(20) + 1, Cycle: random.Int63n(10) + 1, Curing: random.Int63n(41)}
}

// randomOrders returns valid orders, most of them for some works that are nearly enough for them.
func randomOrders(random *rand.Rand, w impl.Works) []impl.Order {
	dues := random.Perm(201)[:random.Intn(9)]
	slices.Sort(dues)
	ready, _ := stocks(w, 0, nil)
	var list []impl.Order
	wanted := int64(0)
	for _, due := range dues {
		pieces := random.Int63n(200) + 1
		if most := min(ready[due]-wanted, 198); most > 0 && random.Intn(9) > 0 {
			pieces = most - random.Int63n(min(most, 5)) + random.Int63n(20)/18
		}
		wanted += pieces
		list = append(list, impl.Order{Due: int64(due), Pieces: pieces})
	}
	return list
}

// edgeOrders tells which orders at the limits are valid.
var edgeOrders = map[string]bool{
	"": true, "0:1": true, "0:200": true, "200:1": true, "200:200": true, "-1:1": false, "201:1": false, "0:0": false, "0:-1": false, "0:201": false, "200:201": false, "201:200": false,
	"0:1 1:1": true, "1:1 1:1": false, "1:1 0:1": false, "0:1 200:1": true, "0:1 1:2 1:3": false, "0:1 2:2 1:3": false, "1:1 0:2 2:3": false, "0:1 0:1 1:1": false, "3:1 4:1 -1:1": false,
	"0:1 1:0": false, "0:1 1:200 2:201": false, "0:0 1:1": false, "0:1 1:1 201:1": false, "5:9 6:1": true,
	"0:1 1:1 2:1 3:1 4:1 5:1 6:1 7:1": true, "0:1 1:1 2:1 3:1 4:1 5:1 6:1 7:1 8:1": false, "0:200 1:200 2:200 3:200 4:200 5:200 6:200 200:200": true, "193:1 194:1 195:1 196:1 197:1 198:1 199:1 200:1": true, "193:1 194:1 195:1 196:1 197:1 198:1 199:1 200:1 201:1": false,
}

// edgeWorks tells which works at the limits are valid.
var edgeWorks = map[string]bool{
	"1,1,0": true, "0,1,0": false, "-1,1,0": false, "200,1,0": true, "201,1,0": false, "1,0,0": false, "1,-1,0": false, "1,10,0": true, "1,11,0": false, "1,1,-1": false, "1,1,40": true, "1,1,41": false,
	"200,10,40": true, "201,10,40": false, "200,11,40": false, "200,10,41": false, "0,0,0": false, "2,2,3": true,
}

// badOrders are orders that are not valid.
func badOrders() [][]impl.Order {
	list := [][]impl.Order{{{}}, {{Due: math.MaxInt64, Pieces: 1}}, {{Due: math.MinInt64, Pieces: 1}}, {{Due: 5, Pieces: math.MaxInt64}}, {{Due: 5, Pieces: math.MinInt64}}}
	for s, isValid := range edgeOrders {
		if !isValid {
			list = append(list, orders(s))
		}
	}
	return list
}

// badWorks are works that are not valid.
func badWorks() []impl.Works {
	list := []impl.Works{{}, {Moulds: math.MaxInt64, Cycle: 1}, {Moulds: math.MinInt64, Cycle: 1}, {Moulds: 1, Cycle: math.MaxInt64}, {Moulds: 1, Cycle: math.MinInt64}, {Moulds: 1, Cycle: 1, Curing: math.MaxInt64}, {Moulds: 1, Cycle: 1, Curing: math.MinInt64}}
	for s, isValid := range edgeWorks {
		if !isValid {
			list = append(list, works(s))
		}
	}
	return list
}

func TestLimitsOfWorks(t *testing.T) {
	got := results(impl.MaxOrders, impl.MaxPieces, impl.MaxCycle, impl.MaxCuring, impl.MaxDays)
	expect(t, "limits", got, "[8 200 10 40 200]")
}

func TestValidOrders(t *testing.T) {
	for s, isValid := range edgeOrders {
		expect(t, "ValidOrders("+s+")", results(impl.ValidOrders(orders(s))), results(isValid))
	}
	random := rand.New(rand.NewSource(94))
	counts := map[bool]int{}
	for range 5000 {
		list := randomOrders(random, randomWorks(random))
		if len(list) > 0 && random.Intn(2) == 0 {
			o := &list[random.Intn(len(list))]
			o.Due, o.Pieces = o.Due+random.Int63n(7)-3, o.Pieces+random.Int63n(7)-3
		}
		isValid := ordersAreValid(list)
		counts[isValid]++
		expect(t, fmt.Sprintf("ValidOrders(%v)", list), results(impl.ValidOrders(list)), results(isValid))
	}
	if counts[true] < 100 || counts[false] < 100 {
		t.Errorf("orders that are valid, and that are not: %v", counts)
	}
}

func TestValidWorks(t *testing.T) {
	for s, isValid := range edgeWorks {
		expect(t, "ValidWorks("+s+")", results(impl.ValidWorks(works(s))), results(isValid))
	}
	for moulds := int64(-2); moulds <= 205; moulds++ {
		for cycle := int64(-2); cycle <= 12; cycle++ {
			for curing := int64(-2); curing <= 43; curing += 3 {
				w := impl.Works{Moulds: moulds, Cycle: cycle, Curing: curing}
				expect(t, fmt.Sprintf("ValidWorks(%v)", w), results(impl.ValidWorks(w)), results(worksAreValid(w)))
			}
		}
	}
}

// supplied calls all functions that receive works.
func supplied(w impl.Works, list []impl.Order, day int64) string {
	ready, one := impl.ReadyBy(w, day)
	short, two := impl.ShortDays(w, list)
	start, three := impl.LatestStart(w, list)
	stock, four := impl.StockOn(w, list, day)
	return results(ready, one, short, two, start, three, stock, four)
}

func TestWorksAndOrdersThatAreNotValid(t *testing.T) {
	good, list := works("200,1,0"), orders("7:1")
	expect(t, "works that are valid", supplied(good, list, 7), "[1400 true [] true 6 true 1399 true]")
	for _, bad := range badOrders() {
		moulds, due, ok := impl.FewestMoulds(1, 0, bad)
		expect(t, fmt.Sprintf("FewestMoulds(1, 0, %v)", bad), results(moulds, due, ok), "[0 0 false]")
		expect(t, fmt.Sprintf("the orders %v", bad), supplied(good, bad, 7), "[1400 true [] false 0 false 0 false]")
	}
	for _, bad := range badWorks() {
		expect(t, fmt.Sprintf("the works %v", bad), supplied(bad, list, 7), "[0 false [] false 0 false 0 false]")
		expect(t, fmt.Sprintf("the works %v without orders", bad), supplied(bad, nil, 7), "[0 false [] false 0 false 0 false]")
	}
	for _, day := range []int64{-1, 201, -200, math.MaxInt64, math.MinInt64} {
		expect(t, fmt.Sprintf("the day %d", day), supplied(good, list, day), "[0 false [] true 6 true 0 false]")
		expect(t, fmt.Sprintf("the day %d without orders", day), supplied(good, nil, day), "[0 false [] true 200 true 0 false]")
	}
	late := orders("200:1")
	for _, n := range []int64{-1, 0, 11, math.MaxInt64, math.MinInt64} {
		moulds, due, ok := impl.FewestMoulds(n, 0, late)
		expect(t, fmt.Sprintf("FewestMoulds with the cycle %d", n), results(moulds, due, ok), "[0 0 false]")
	}
	for _, n := range []int64{-1, 41, math.MaxInt64, math.MinInt64} {
		moulds, due, ok := impl.FewestMoulds(1, n, late)
		expect(t, fmt.Sprintf("FewestMoulds with %d days of curing", n), results(moulds, due, ok), "[0 0 false]")
	}
}

func TestReadyBy(t *testing.T) {
	for s, want := range map[string]map[int64]int64{
		"2,2,3": {0: 0, 3: 0, 4: 0, 5: 2, 6: 2, 7: 4, 8: 4, 9: 6, 200: 196}, "1,1,0": {0: 0, 1: 1, 2: 2, 199: 199, 200: 200}, "200,1,0": {0: 0, 1: 200, 200: 40000},
		"1,10,0": {0: 0, 9: 0, 10: 1, 11: 1, 19: 1, 20: 2, 199: 19, 200: 20}, "1,1,40": {0: 0, 39: 0, 40: 0, 41: 1, 42: 2, 200: 160}, "200,10,40": {0: 0, 40: 0, 49: 0, 50: 200, 51: 200, 59: 200, 60: 400, 199: 3000, 200: 3200}, "3,7,5": {5: 0, 11: 0, 12: 3, 13: 3, 18: 3, 19: 6},
	} {
		for day, pieces := range want {
			ready, ok := impl.ReadyBy(works(s), day)
			expect(t, fmt.Sprintf("ReadyBy(%s, %d)", s, day), results(ready, ok), results(pieces, true))
		}
	}
	for moulds := int64(1); moulds <= 200; moulds += 66 {
		for cycle := int64(1); cycle <= 10; cycle++ {
			for curing := int64(0); curing <= 40; curing++ {
				w := impl.Works{Moulds: moulds, Cycle: cycle, Curing: curing}
				want, _ := stocks(w, 0, nil)
				for day, pieces := range want {
					ready, ok := impl.ReadyBy(w, int64(day))
					if !ok || ready != pieces {
						t.Errorf("ReadyBy(%v, %d): got %d %t, want %d", w, day, ready, ok, pieces)
					}
				}
			}
		}
	}
}

func TestShortDays(t *testing.T) {
	for _, x := range []struct{ works, orders, want string }{
		{"2,2,3", "", "[]"}, {"2,2,3", "7:4 9:7", "[9]"}, {"2,2,3", "4:1", "[4]"}, {"2,2,3", "5:1", "[]"}, {"2,2,3", "5:2", "[]"}, {"2,2,3", "5:3", "[5]"}, {"2,2,3", "6:2", "[]"}, {"2,2,3", "6:3", "[6]"}, {"2,2,3", "7:4", "[]"}, {"2,2,3", "7:5", "[7]"},
		// Each order alone could be had, but not all of them together.
		{"2,2,3", "5:2 6:1", "[6]"}, {"2,2,3", "5:2 6:1 7:1", "[6]"}, {"2,2,3", "5:2 6:1 7:2", "[6 7]"}, {"2,2,3", "5:2 7:2 9:2 11:2", "[]"}, {"2,2,3", "5:2 7:2 9:3 11:1", "[9]"}, {"1,1,0", "1:1 2:1 3:1 4:1 5:1 6:1 7:1 8:1", "[]"}, {"1,1,0", "1:1 2:1 3:1 4:2 5:1 6:1 7:1 8:1", "[4 5 6 7 8]"},
		// What is short on a day may be there on the next one.
		{"2,2,3", "4:1 5:1", "[4]"}, {"2,2,3", "0:1 1:1 5:1 7:1", "[0 1 5]"}, {"3,2,0", "1:3 2:1 3:1 4:1", "[1 2 3]"}, {"3,2,0", "1:1 2:2 3:1 4:2 5:3 6:1", "[1 3 5 6]"}, {"3,2,0", "1:1 2:2 3:1 4:2 5:3 8:3", "[1 3 5]"},
		{"200,1,0", "0:1", "[0]"}, {"200,1,0", "1:200 2:200 3:200 200:200", "[]"}, {"1,10,40", "49:1", "[49]"}, {"1,10,40", "50:1", "[]"}, {"1,10,40", "200:16", "[]"}, {"1,10,40", "200:17", "[200]"}, {"1,1,0", "200:200", "[]"}, {"1,1,0", "199:200", "[199]"},
	} {
		short, ok := impl.ShortDays(works(x.works), orders(x.orders))
		expect(t, "ShortDays("+x.works+", "+x.orders+")", results(short, ok), results(x.want, true))
	}
}

func TestFewestMoulds(t *testing.T) {
	for _, x := range []struct{ cycleAndCuring, orders, want string }{
		{"2,3", "", "[0 0 false]"}, {"2,3", "7:4 9:7", "[4 9 true]"}, {"2,3", "7:4 9:5", "[3 9 true]"}, {"2,3", "7:4", "[2 7 true]"}, {"2,3", "7:5", "[3 7 true]"}, {"2,3", "7:3", "[2 7 true]"}, {"2,3", "7:2", "[1 7 true]"}, {"2,3", "7:1", "[1 7 true]"},
		// The Due that needs the most is not the last one, or there are two of them.
		{"2,3", "5:4 9:1", "[4 5 true]"}, {"2,3", "5:1 7:5 200:1", "[3 7 true]"}, {"2,3", "5:2 7:2", "[2 5 true]"}, {"2,3", "5:2 7:1", "[2 5 true]"}, {"2,3", "5:1 7:2 9:2", "[2 7 true]"}, {"1,0", "1:3 2:3 3:3", "[3 1 true]"}, {"1,0", "1:2 2:4 3:3", "[3 2 true]"}, {"1,0", "1:2 2:3 3:3", "[3 2 true]"}, {"1,0", "1:2 2:2 3:3", "[3 3 true]"},
		{"1,0", "1:200", "[200 1 true]"}, {"1,0", "1:200 2:200", "[200 1 true]"}, {"1,0", "2:200 3:200", "[134 3 true]"}, {"2,0", "2:200 3:1", "[0 0 false]"}, {"2,0", "2:199 3:1", "[200 3 true]"}, {"2,0", "2:100 3:100", "[200 3 true]"}, {"2,0", "2:100 3:101", "[0 0 false]"}, {"2,0", "2:200 3:1 200:200", "[0 0 false]"}, {"10,40", "200:200 ", "[13 200 true]"}, {"10,40", "59:200", "[200 59 true]"},
		// Some pieces cannot be ready in time.
		{"2,3", "4:1", "[0 0 false]"}, {"2,3", "5:1", "[1 5 true]"}, {"2,3", "4:1 9:1", "[0 0 false]"}, {"2,3", "0:1", "[0 0 false]"}, {"1,0", "0:1", "[0 0 false]"}, {"1,0", "0:1 200:1", "[0 0 false]"}, {"10,40", "49:1", "[0 0 false]"}, {"10,40", "50:1", "[1 50 true]"}, {"2,8", "7:4 9:7", "[0 0 false]"}, {"1,40", "40:1", "[0 0 false]"}, {"1,40", "41:1", "[1 41 true]"},
	} {
		list := numbers(x.cycleAndCuring)
		moulds, due, ok := impl.FewestMoulds(list[0], list[1], orders(x.orders))
		expect(t, "FewestMoulds("+x.cycleAndCuring+", "+x.orders+")", results(moulds, due, ok), x.want)
	}
}

func TestLatestStart(t *testing.T) {
	for _, x := range []struct{ works, orders, want string }{
		{"2,2,3", "", "[200 true]"}, {"200,10,40", "", "[200 true]"}, {"2,2,3", "7:4 9:7", "[0 false]"}, {"4,2,3", "7:4 9:7", "[0 true]"}, {"2,2,3", "7:4", "[0 true]"}, {"2,2,3", "7:5", "[0 false]"}, {"2,2,3", "8:4", "[1 true]"}, {"2,2,3", "7:2", "[2 true]"}, {"2,2,3", "7:3", "[0 true]"},
		{"2,2,3", "5:2", "[0 true]"}, {"2,2,3", "6:2", "[1 true]"}, {"2,2,3", "4:2", "[0 false]"}, {"2,2,3", "10:1 20:1", "[5 true]"}, {"2,2,3", "10:1 11:5", "[2 true]"}, {"2,2,3", "10:1 11:6", "[0 true]"}, {"2,2,3", "10:1 30:23", "[3 true]"}, {"2,2,3", "10:3 30:23", "[1 true]"}, {"2,2,3", "10:4 30:1 200:200", "[0 false]"}, {"2,2,3", "10:4 30:1 200:180", "[3 true]"},
		{"1,1,0", "200:1", "[199 true]"}, {"1,1,0", "200:200", "[0 true]"}, {"2,1,0", "200:200", "[100 true]"}, {"200,1,0", "200:200", "[199 true]"}, {"200,1,0", "199:200 200:200", "[198 true]"}, {"200,10,40", "200:200", "[150 true]"}, {"1,10,40", "200:16", "[0 true]"}, {"1,10,40", "200:17", "[0 false]"}, {"1,1,0", "0:1", "[0 false]"}, {"1,1,0", "1:1", "[0 true]"}, {"1,1,0", "2:1", "[1 true]"},
	} {
		start, ok := impl.LatestStart(works(x.works), orders(x.orders))
		expect(t, "LatestStart("+x.works+", "+x.orders+")", results(start, ok), x.want)
	}
}

func TestStockOn(t *testing.T) {
	for _, x := range []struct {
		works, orders string
		want          map[int64]string
	}{
		{"2,2,3", "", map[int64]string{0: "[0 true]", 4: "[0 true]", 5: "[2 true]", 200: "[196 true]"}},
		{"4,2,3", "7:4 9:7", map[int64]string{0: "[0 true]", 5: "[4 true]", 6: "[4 true]", 7: "[4 true]", 8: "[4 true]", 9: "[1 true]", 10: "[1 true]", 11: "[5 true]", 200: "[381 true]"}},
		// The day 9 is short: before it there is a stock, but not on it or behind it, even if there are enough pieces again.
		{"2,2,3", "7:4 9:7", map[int64]string{0: "[0 true]", 5: "[2 true]", 7: "[0 true]", 8: "[0 true]", 9: "[0 false]", 10: "[0 false]", 13: "[0 false]", 15: "[0 false]", 200: "[0 false]"}},
		{"2,2,3", "4:1 20:1", map[int64]string{0: "[0 true]", 3: "[0 true]", 4: "[0 false]", 5: "[0 false]", 19: "[0 false]", 20: "[0 false]", 21: "[0 false]"}},
		{"2,2,3", "5:1 8:1 10:9 12:1", map[int64]string{4: "[0 true]", 5: "[1 true]", 6: "[1 true]", 7: "[3 true]", 8: "[2 true]", 9: "[4 true]", 10: "[0 false]", 11: "[0 false]", 12: "[0 false]", 30: "[0 false]"}},
		{"1,1,0", "0:1", map[int64]string{0: "[0 false]", 1: "[0 false]", 200: "[0 false]"}}, {"200,1,0", "1:200 200:200", map[int64]string{0: "[0 true]", 1: "[0 true]", 2: "[200 true]", 199: "[39600 true]", 200: "[39600 true]"}},
		{"1,1,0", "200:200", map[int64]string{199: "[199 true]", 200: "[0 true]"}}, {"1,1,0", "199:200", map[int64]string{198: "[198 true]", 199: "[0 false]", 200: "[0 false]"}},
	} {
		for day, want := range x.want {
			stock, ok := impl.StockOn(works(x.works), orders(x.orders), day)
			expect(t, fmt.Sprintf("StockOn(%s, %s, %d)", x.works, x.orders, day), results(stock, ok), want)
		}
	}
}

// TestWorksDayByDay compares all functions of works with days that are counted one by one.
func TestWorksDayByDay(t *testing.T) {
	random := rand.New(rand.NewSource(95))
	counts := map[string]int{}
	for range 1500 {
		w := randomWorks(random)
		list := randomOrders(random, w)
		name := fmt.Sprintf("%v, %v", w, list)
		_, left := stocks(w, 0, list)
		want := shortIn(left, list)
		short, ok := impl.ShortDays(w, list)
		expect(t, "ShortDays("+name+")", results(short, ok), results(want, true))
		start, ok := impl.LatestStart(w, list)
		expect(t, "LatestStart("+name+")", results(start, ok), latestStart(w, list))
		moulds, due, is := impl.FewestMoulds(w.Cycle, w.Curing, list)
		expect(t, "FewestMoulds("+name+")", results(moulds, due, is), fewestMoulds(w, list))
		for day := int64(0); day <= 200; day += random.Int63n(9) + 1 {
			stock, ok := impl.StockOn(w, list, day)
			expect(t, fmt.Sprintf("StockOn(%s, %d)", name, day), results(stock, ok), stockOn(left, day))
		}
		for what, happens := range map[string]bool{
			"several short days": len(want) > 1, "an order that is there behind one that is not": len(want) > 0 && want[len(want)-1] < list[len(list)-1].Due,
			"a start that is put off": start > 0, "no day to be put off": ok && start == 0, "moulds that are not the last Due's": is && due < list[len(list)-1].Due, "too many moulds": !is,
		} {
			if happens {
				counts[what]++
			}
		}
	}
	for what, count := range counts {
		if count < 50 {
			t.Errorf("%s: %d", what, count)
		}
	}
	if len(counts) < 6 {
		t.Errorf("not all of these happened: %v", counts)
	}
}

// TestFewestMouldsAreEnoughAndNeeded lets works have as many moulds as are needed, and one less.
func TestFewestMouldsAreEnoughAndNeeded(t *testing.T) {
	random := rand.New(rand.NewSource(96))
	less := 0
	for range 3000 {
		w := randomWorks(random)
		list := randomOrders(random, w)
		moulds, due, ok := impl.FewestMoulds(w.Cycle, w.Curing, list)
		if !ok {
			continue
		}
		w.Moulds = moulds
		short, one := impl.ShortDays(w, list)
		expect(t, fmt.Sprintf("ShortDays(%v, %v)", w, list), results(short, one), "[[] true]")
		w.Moulds--
		if short, one = impl.ShortDays(w, list); one {
			less++
			expect(t, fmt.Sprintf("the first short day of %v, %v", w, list), results(short[0]), results(due))
		}
	}
	if less < 500 {
		t.Errorf("only %d lists of orders need more than one mould", less)
	}
}
