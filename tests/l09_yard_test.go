package tests

import (
	"fmt"
	"math"
	"math/rand"
	"regexp"
	"slices"
	"strings"
	"testing"

	"loop.example/g01099/impl"
)

// yard returns the yard with a text, whether or not it is valid.
func yard(s string) impl.Yard {
	height, rest, _ := strings.Cut(s, ":")
	y := impl.Yard{Height: numbers(height)[0]}
	for _, word := range strings.FieldsFunc(rest, func(r rune) bool { return r == '|' }) {
		var lots []int64
		if word != "-" {
			lots = numbers(word)
		}
		y.Stacks = append(y.Stacks, lots)
	}
	return y
}

// yardText writes the text of any yard as the document says.
func yardText(y impl.Yard) string {
	var words []string
	for _, lots := range y.Stacks {
		word := commas(lots)
		if len(lots) == 0 {
			word = "-"
		}
		words = append(words, word)
	}
	return fmt.Sprintf("%d:%s", y.Height, strings.Join(words, "|"))
}

// moves returns the moves with a text such as 0>1 1>2; an index may be left out, or there may be more than two.
func moves(s string) [][]int64 {
	var list [][]int64
	for _, word := range strings.Fields(s) {
		move := []int64{}
		for _, index := range strings.FieldsFunc(word, func(r rune) bool { return r == '>' }) {
			move = append(move, numbers(index)...)
		}
		list = append(list, move)
	}
	return list
}

func yardIsValid(y impl.Yard) bool {
	if y.Height < 1 || y.Height > 4 || len(y.Stacks) < 1 || len(y.Stacks) > 4 {
		return false
	}
	seen := map[int64]bool{}
	for _, lots := range y.Stacks {
		if int64(len(lots)) > y.Height {
			return false
		}
		for _, lot := range lots {
			if lot < 0 || lot > 99 || seen[lot] || len(seen) == 7 {
				return false
			}
			seen[lot] = true
		}
	}
	return true
}

// copied returns a yard with lists of its own.
func copied(y impl.Yard) impl.Yard {
	y.Stacks = slices.Clone(y.Stacks)
	for i := range y.Stacks {
		y.Stacks[i] = slices.Clone(y.Stacks[i])
	}
	return y
}

// nextIn returns the stack of the least lot and how many lots lie above it, or -1 if there are no lots.
func nextIn(y impl.Yard) (int, int) {
	lots := slices.Concat(y.Stacks...)
	if len(lots) == 0 {
		return -1, 0
	}
	least := slices.Min(lots)
	stack := slices.IndexFunc(y.Stacks, func(lots []int64) bool { return slices.Contains(lots, least) })
	return stack, len(y.Stacks[stack]) - 1 - slices.Index(y.Stacks[stack], least)
}

// taken returns a yard without its next lot, if this is topmost.
func taken(y impl.Yard) (impl.Yard, bool) {
	stack, above := nextIn(y)
	if stack < 0 || above > 0 {
		return impl.Yard{}, false
	}
	y = copied(y)
	y.Stacks[stack] = y.Stacks[stack][:len(y.Stacks[stack])-1]
	return y, true
}

// settled returns a yard without all lots that can be taken.
func settled(y impl.Yard) impl.Yard {
	for {
		after, ok := taken(y)
		if !ok {
			return y
		}
		y = after
	}
}

// moved returns a yard after a move, if it can be made.
func moved(y impl.Yard, from, to int64) (impl.Yard, bool) {
	stacks := int64(len(y.Stacks))
	if from < 0 || to < 0 || from >= stacks || to >= stacks || from == to {
		return impl.Yard{}, false
	}
	last := len(y.Stacks[from]) - 1
	if last < 0 || int64(len(y.Stacks[to])) >= y.Height {
		return impl.Yard{}, false
	}
	y = copied(y)
	y.Stacks[to] = append(y.Stacks[to], y.Stacks[from][last])
	y.Stacks[from] = y.Stacks[from][:last]
	return y, true
}

// afterMoves carries out a plan in a valid yard.
func afterMoves(y impl.Yard, list [][]int64) (impl.Yard, bool) {
	y = settled(y)
	for i, move := range list {
		stack, _ := nextIn(y)
		if i == 21 || stack < 0 || len(move) != 2 || move[0] != int64(stack) {
			return impl.Yard{}, false
		}
		after, ok := moved(y, move[0], move[1])
		if !ok {
			return impl.Yard{}, false
		}
		y = settled(after)
	}
	return y, true
}

// shownYard shows the results of a call.
func shownYard(y impl.Yard, ok bool) string {
	if !ok {
		return results(y, ok)
	}
	return yardText(y)
}

// allYards returns all yards with the lots 0, 1 and so on.
func allYards(height, stacks, lots int) []impl.Yard {
	list := []impl.Yard{{Height: int64(height), Stacks: make([][]int64, stacks)}}
	for lot := range lots {
		var more []impl.Yard
		for _, y := range list {
			for i, below := range y.Stacks {
				for place := 0; place <= len(below) && len(below) < height; place++ {
					next := copied(y)
					next.Stacks[i] = slices.Insert(next.Stacks[i], place, int64(lot))
					more = append(more, next)
				}
			}
		}
		list = more
	}
	return list
}

// smallYards returns all yards with up to 4 lots in up to 3 stacks.
func smallYards() []impl.Yard {
	var list []impl.Yard
	for height := 1; height <= 4; height++ {
		for stacks := 1; stacks <= 3; stacks++ {
			for lots := 0; lots <= 4; lots++ {
				list = append(list, allYards(height, stacks, lots)...)
			}
		}
	}
	return list
}

// randomYard returns a valid yard, most often one with many lots.
func randomYard(random *rand.Rand) impl.Yard {
	y := impl.Yard{Height: random.Int63n(4) + 1, Stacks: make([][]int64, random.Intn(4)+1)}
	lots := 7
	if random.Intn(3) == 0 {
		lots = random.Intn(8)
	}
	most := 100
	if random.Intn(2) == 0 {
		most = 10
	}
	for i, lot := range random.Perm(most) {
		stack := random.Intn(len(y.Stacks))
		if i < lots && int64(len(y.Stacks[stack])) < y.Height {
			y.Stacks[stack] = append(y.Stacks[stack], int64(lot))
		}
	}
	return y
}

// sampleYards are yards with all numbers of stacks and lots.
func sampleYards() []impl.Yard {
	random := rand.New(rand.NewSource(91))
	var list []impl.Yard
	for range 1500 {
		list = append(list, randomYard(random))
	}
	return list
}

// edgeYards tells which yards at the limits are valid.
var edgeYards = map[string]bool{
	"0:-": false, "1:-": true, "4:-": true, "5:-": false, "-1:-": false,
	"1:": false, "4:": false, "4:-|-|-|-": true, "4:-|-|-|-|-": false, "1:0|1|2|3": true, "1:0|1|2|3|4": false,
	"1:0": true, "1:1,0": false, "2:0,1": true, "2:2,1,0": false, "3:0,1,2": true, "3:0,1,2,3": false, "4:0,1,2,3": true, "4:0,1,2,3,4": false,
	"1:-|-|1,0": false, "2:-|0|2,1,3": false, "3:0|1,2,3|-": true,
	"4:0,1,2,3|4,5,6": true, "4:0,1,2,3|4,5,6,7": false, "2:0,1|2,3|4,5|6": true, "2:0,1|2,3|4,5|6,7": false, "3:6,5,4|3|2,1|0": true, "3:6,5,4|3|2,1|0,7": false,
	"1:99": true, "1:-1": false, "1:100": false, "4:0,99": true, "4:99,0": true, "4:0,-1": false, "4:100,99": false, "4:3|-|4,100": false, "4:3|-|-1,4": false,
	"2:0,0": false, "2:1,1": false, "2:0|0": false, "4:5,6,7,5": false, "4:5,5,6,7": false, "3:1,2|3,1": false, "2:7|8,9|7": false, "4:99|-|98|99": false,
}

// badYards are yards that are not valid.
func badYards() []impl.Yard {
	list := []impl.Yard{{}, {Height: 2}, {Height: 2, Stacks: [][]int64{}}, {Height: 2, Stacks: [][]int64{{math.MaxInt64}}}, {Height: 2, Stacks: [][]int64{{math.MinInt64, 1}}}, {Height: math.MaxInt64, Stacks: [][]int64{{0, 1}}}, {Height: math.MinInt64, Stacks: [][]int64{{}}}}
	for s, isValid := range edgeYards {
		if !isValid {
			list = append(list, yard(s))
		}
	}
	return list
}

func TestLimitsOfYards(t *testing.T) {
	expect(t, "limits", results(impl.MaxStacks, impl.MaxStackHeight, impl.MaxLots, impl.MaxMoves), "[4 4 7 21]")
}

func TestValidYard(t *testing.T) {
	for s, isValid := range edgeYards {
		expect(t, "ValidYard("+s+")", results(impl.ValidYard(yard(s))), results(isValid))
	}
	for _, y := range append(sampleYards(), smallYards()...) {
		expect(t, "ValidYard("+yardText(y)+")", results(impl.ValidYard(y)), "[true]")
	}
	random := rand.New(rand.NewSource(92))
	counts := map[bool]int{}
	for _, y := range sampleYards() {
		stack := random.Intn(len(y.Stacks))
		for len(y.Stacks[stack]) < 3 {
			y.Stacks[stack] = append(y.Stacks[stack], random.Int63n(104)-2)
		}
		isValid := yardIsValid(y)
		counts[isValid]++
		expect(t, "ValidYard("+yardText(y)+")", results(impl.ValidYard(y)), results(isValid))
	}
	if counts[true] < 100 || counts[false] < 100 {
		t.Errorf("yards that are valid, and that are not: %v", counts)
	}
}

func TestYardsThatAreNotValid(t *testing.T) {
	for _, y := range badYards() {
		name := yardText(y)
		tops, one := impl.TopsOf(y)
		blockers, two := impl.BlockersOf(y)
		after, three := impl.MoveTop(y, 0, 1)
		rest, four := impl.TakeNext(y)
		last, five := impl.RunMoves(y, nil)
		next, six := impl.RunMoves(y, moves("0>1"))
		list, seven := impl.FewestMoves(y)
		text, eight := impl.YardText(y)
		got := results(impl.ValidYard(y), tops, one, blockers, two, after, three, rest, four, last, five, next, six, list, seven, text, eight)
		expect(t, name, got, "[false [] false [] false {0 []} false {0 []} false {0 []} false {0 []} false [] false  false]")
		read, ok := impl.ReadYard(name)
		expect(t, "ReadYard("+name+")", results(read, ok), "[{0 []} false]")
	}
}

func TestTopsOf(t *testing.T) {
	for s, want := range map[string]string{
		"1:-": "[-1]", "4:-|-|-|-": "[-1 -1 -1 -1]", "1:0": "[0]", "2:0,1|-": "[1 -1]", "3:-|9,4,7|0": "[-1 7 0]", "4:1,2,3,99": "[99]", "4:-|0,3,2,1|-": "[-1 1 -1]",
	} {
		tops, ok := impl.TopsOf(yard(s))
		expect(t, "TopsOf("+s+")", results(tops, ok), results(want, true))
	}
	for _, y := range append(sampleYards(), smallYards()...) {
		var want []int64
		for _, lots := range y.Stacks {
			want = append(want, append([]int64{-1}, lots...)[len(lots)])
		}
		tops, ok := impl.TopsOf(y)
		expect(t, "TopsOf("+yardText(y)+")", results(tops, ok), results(want, true))
	}
}

// blockersOf compares each lot with all lots below it.
func blockersOf(y impl.Yard) []int64 {
	var list []int64
	for _, lots := range y.Stacks {
		for i, lot := range lots {
			if slices.ContainsFunc(lots[:i], func(below int64) bool { return below < lot }) {
				list = append(list, lot)
			}
		}
	}
	slices.Sort(list)
	return list
}

func TestBlockersOf(t *testing.T) {
	for s, want := range map[string]string{
		"1:-": "[]", "4:-|-|-|-": "[]", "1:0": "[]", "2:0,1|-": "[1]", "2:1,0|-": "[]", "4:3,2,1,0": "[]", "4:0,1,2,3": "[1 2 3]",
		"3:1,3,2": "[2 3]", "3:2,3,1": "[3]", "4:1,9,8,7": "[7 8 9]", "4:5,1,4,2": "[2 4]", "4:5,9,1,4": "[4 9]",
		"2:0,9|1,8|2,7|3": "[7 8 9]", "2:0,7|1,8|2,9|-": "[7 8 9]", "4:9,8|7,5|-|6": "[]",
	} {
		blockers, ok := impl.BlockersOf(yard(s))
		expect(t, "BlockersOf("+s+")", results(blockers, ok), results(want, true))
	}
	apart := 0
	for _, y := range append(sampleYards(), smallYards()...) {
		want := blockersOf(y)
		for _, lots := range y.Stacks {
			for i := 2; i < len(lots); i++ {
				if lots[i] < lots[i-1] && slices.Contains(want, lots[i]) {
					apart++
				}
			}
		}
		blockers, ok := impl.BlockersOf(y)
		expect(t, "BlockersOf("+yardText(y)+")", results(blockers, ok), results(want, true))
	}
	if apart < 100 {
		t.Errorf("%d lots lie above a lesser one that is not the next below them", apart)
	}
}

func TestMoveTop(t *testing.T) {
	for s, want := range map[string]string{
		"2:0,1|- 0>1": "2:0|1", "2:0,1|- 1>0": "", "2:0,1|- 0>0": "", "2:0,1|- 1>1": "", "2:0,1|- 0>2": "", "2:0,1|- 2>0": "", "2:0,1|- -1>0": "", "2:0,1|- 0>-1": "", "2:0,1|- 0>3": "", "2:0,1|- 3>0": "", "2:0,1|- -1>-1": "",
		"2:0,1|2,3 0>1": "", "2:0,1|2 0>1": "2:0|2,1", "2:0,1|2 1>0": "", "1:0|1 0>1": "", "1:0|- 0>1": "1:-|0", "4:0 0>0": "", "4:- 0>0": "", "4:0 0>1": "",
		"4:0,1,2|3,4,5,6 0>1": "", "4:0,1,2|3,4,5,6 1>0": "4:0,1,2,6|3,4,5", "4:5|6|-|- 0>3": "4:-|6|-|5", "4:5|6|-|- 0>1": "4:-|6,5|-|-", "4:5|6|-|- 2>3": "", "4:5|6|-|- 2>0": "", "4:5|6|-|- 0>4": "",
	} {
		name, move, _ := strings.Cut(s, " ")
		if want == "" {
			want = "[{0 []} false]"
		}
		list := moves(move)[0]
		expect(t, "MoveTop "+s, shownYard(impl.MoveTop(yard(name), list[0], list[1])), want)
	}
	for _, y := range append(sampleYards(), smallYards()...) {
		for from := int64(-1); from <= 4; from++ {
			for to := int64(-1); to <= 4; to++ {
				want := shownYard(moved(y, from, to))
				expect(t, fmt.Sprintf("MoveTop(%s, %d, %d)", yardText(y), from, to), shownYard(impl.MoveTop(y, from, to)), want)
			}
		}
	}
}

func TestTakeNext(t *testing.T) {
	for s, want := range map[string]string{
		"1:-": "", "4:-|-|-|-": "", "1:0": "1:-", "1:99": "1:-", "2:0,1|-": "", "2:1,0|-": "2:1|-", "2:1|0": "2:1|-", "2:0|1": "2:-|1", "4:1,2|3,4|5": "", "4:9,8|7,6": "4:9,8|7",
		"3:5,1|2,9": "3:5|2,9", "3:5,2|1,9": "", "4:2,3,1|4": "4:2,3|4", "4:4,3|-|2|1,0": "4:4,3|-|2|1",
	} {
		if want == "" {
			want = "[{0 []} false]"
		}
		expect(t, "TakeNext("+s+")", shownYard(impl.TakeNext(yard(s))), want)
	}
	counts := map[bool]int{}
	for _, y := range append(sampleYards(), smallYards()...) {
		for ok := true; ok; {
			var after, rest impl.Yard
			after, ok = taken(y)
			counts[ok]++
			rest, is := impl.TakeNext(y)
			expect(t, "TakeNext("+yardText(y)+")", shownYard(rest, is), shownYard(after, ok))
			y = after
		}
	}
	if counts[true] < 100 || counts[false] < 100 {
		t.Errorf("yards whose next lot can be taken, and others: %v", counts)
	}
}

func TestRunMoves(t *testing.T) {
	for _, x := range []struct{ yard, moves, want string }{
		{"2:0,1|-", "", "2:0,1|-"}, {"2:0,1|-", "0>1", "2:-|-"}, {"2:0,1|-", "0>1 0>1", ""}, {"2:0,1|-", "0>1 1>0", ""},
		{"1:-", "", "1:-"}, {"1:-", "0>0", ""}, {"1:-|-", "0>1", ""}, {"1:-|-", "-1>0", ""}, {"4:3,2,1,0", "", "4:-"}, {"4:3,2|1,0", "", "4:-|-"}, {"4:3,2|1,0", "0>1", ""},
		// Lots are taken before, between and behind the moves, and none is taken too early.
		{"3:3,0|1,4,2|-", "", "3:3|1,4,2|-"}, {"3:3,0|1,4,2|-", "1>2", "3:3|1,4|2"}, {"3:3,0|1,4,2|-", "1>2 1>0", "3:3,4|-|-"}, {"3:3,0|1,4,2|-", "1>2 1>2", "3:3|-|2,4"},
		{"3:3,0|1,4,2|-", "1>2 1>0 0>2", "3:-|-|-"}, {"3:3,0|1,4,2|-", "1>2 1>2 2>1", "3:-|-|-"}, {"3:3,0|1,4,2|-", "1>2 1>0 0>2 0>2", ""},
		{"3:5,0|1,9|2,8", "1>0", "3:5,9|-|2,8"}, {"3:5,0|1,9|2,8", "1>0 2>1", "3:5,9|8|-"}, {"3:5,0|1,9|2,8", "1>0 2>1 0>1", "3:-|8,9|-"}, {"3:5,0|1,9|2,8", "1>0 2>1 0>1 1>2", "3:-|-|-"}, {"3:5,0|1,9|2,8", "1>0 2>1 0>2", "3:-|-|-"},
		// Lots that do not lie above the next one are not moved, even if they must be moved later.
		{"3:0,1|-|2,3", "2>1", ""}, {"3:0,1|-|2,3", "0>1 2>1", "3:-|-|-"}, {"3:0,1|-|2,3", "0>1 0>1", ""}, {"3:0,2|1,3|-", "1>2", ""}, {"3:0,2|1,3|-", "0>2 1>2", "3:-|-|2,3"}, {"3:0,2|1,3|-", "0>1 1>2", "3:-|1,3|2"},
		{"3:0,2|1,3|-", "0>1 0>2", ""}, {"3:0|1,2|-", "0>2", ""}, {"3:0|1,2|-", "1>0", "3:-|-|-"}, {"3:0|1,2|-", "0>2 1>2", ""},
		{"2:0,1|2,3", "0>1", ""}, {"2:0,1|2,3|-", "0>1", ""}, {"2:0,1|2,3|-", "0>2", "2:-|2,3|-"}, {"4:0,1", "0>0", ""}, {"4:0,1", "", "4:0,1"},
		{"2:0,1|-", "0>0", ""}, {"2:0,1|-", "1>0", ""}, {"2:0,1|-", "1>1", ""}, {"2:0,1|-", "0>2", ""}, {"2:0,1|-", "2>0", ""}, {"2:0,1|-", "-1>1", ""}, {"2:0,1|-", "0>-1", ""},
		{"2:0,1|-", ">", ""}, {"2:0,1|-", "0", ""}, {"2:0,1|-", "1", ""}, {"2:0,1|-", "0>1>0", ""}, {"2:0,1|-", "0>1>1", ""}, {"2:0,1|-", "0>1 0", ""}, {"2:0,1|-", "0>1 >", ""}, {"2:0,1|-", "0>1>2>3", ""}, {"1:-", ">", ""},
		// No plan can be longer than this one, so that MaxMoves are enough.
		{"4:2|1,3|0,6,5,4", "2>0 2>1 2>1 1>0 1>0 1>2 0>2 0>2 0>2 2>0 2>0 2>0 0>1 0>1 1>0", "4:-|-|-"},
		{"4:2|1,3|0,6,5,4", "2>0 2>1 2>1 1>0 1>0 1>2 0>2 0>2 0>2 2>0 2>0 2>0 0>1 0>1", "4:-|5,6|-"},
	} {
		want := x.want
		if want == "" {
			want = "[{0 []} false]"
		}
		expect(t, fmt.Sprintf("RunMoves(%s, %s)", x.yard, x.moves), shownYard(impl.RunMoves(yard(x.yard), moves(x.moves))), want)
	}
	for _, s := range []string{"1:-", "2:0,1|-", "4:2|1,3|0,6,5,4", "4:0,1,2,3|4,5,6|-|-"} {
		for _, n := range []int{20, 21, 22, 23, 1000} {
			for _, move := range []string{"0>1", "2>1", "0>2"} {
				list := slices.Repeat(moves(move), n)
				expect(t, fmt.Sprintf("RunMoves(%s, %d times %s)", s, n, move), shownYard(impl.RunMoves(yard(s), list)), "[{0 []} false]")
			}
		}
	}
}

func TestRunMovesOfRandomPlans(t *testing.T) {
	random := rand.New(rand.NewSource(93))
	counts := map[bool]int{}
	for _, y := range sampleYards() {
		var list [][]int64
		for range 9 {
			after, ok := afterMoves(y, list)
			counts[ok]++
			expect(t, fmt.Sprintf("RunMoves(%s, %v)", yardText(y), list), shownYard(impl.RunMoves(y, list)), shownYard(after, ok))
			if !ok {
				break
			}
			stack, _ := nextIn(after)
			move := []int64{int64(stack), random.Int63n(int64(len(y.Stacks)))}
			if random.Intn(8) == 0 {
				move = []int64{random.Int63n(4), random.Int63n(4)}
			}
			list = append(list, move)
		}
	}
	if counts[true] < 1000 || counts[false] < 500 {
		t.Errorf("plans that can be carried out, and others: %v", counts)
	}
}

// nearlyYards are texts that are not quite those of a yard.
func nearlyYards() []string {
	list := []string{
		":", "2", "2:", ":-", ":0", "2:|", "2:-|", "2:|-", "2:-||-", "2:-|-|", "2::-", "2:-:", ":2:-", "2:0:1", "2;0", "2,0", "2|0", "2 0", "0", "-", "-:-", "2:--", "2:-|--", "2:-,0", "2:0,-", "2:0-", "2:0,-|1", "0,1|-", "|", "||", "2:0/1", "2:0;1",
		" 2:0", "2:0 ", "2 :0", "2: 0", "2:0, 1", "2:0 ,1", "2:0 1", "2:0| 1", "2:0 |1", "2:0\n", "2:0\x00", "\t2:0", "2:0\r", "2:0\n|1", "2:- ", "2: -", "2:-| ", "2: |-",
		"02:0", "2:00", "2:01", "+2:0", "2:+0", "-2:0", "2:-0", "2:0|-0", "2:0|01", "2:0,01", "2:1,+0", "2:0|+1", "-0:0", "2:0|-1", "2:0,-1", "--2:0",
		"2.0:0", "2:0.0", "0x2:0", "2:0x1", "2:1e1", "2:0_1", "2:1_0", "a:0", "2:a", "2:0a", "a2:0", "2:0|a", "(2:0)", "2:(0)", "2:[0]", "٢:0", "2:٣", "\xff2:0", "2:0\xff", "2：0", "2:0，1", "2:0｜1",
		"2:,", "2:,0", "2:0,", "2:0,,1", "2:0,|1", "2:0|,1", "2:0|1,", "2:0||1",
		"99999999999999999999:0", "2:99999999999999999999", "9223372036854775808:0", "18446744073709551618:0", "2:18446744073709551616", "4294967298:0", "2:4294967296", "258:0", "2:256", "1000000002:0", "2:-|" + strings.Repeat("0", 100000),
		"4:" + commas(upTo(64)), "4:" + commas(upTo(65)), strings.Repeat("|", 100000), "4:" + strings.Repeat("-|", 100000) + "-", strings.Repeat(":", 100000), "4:" + strings.Repeat("0,", 100000) + "0",
	}
	for s, isValid := range edgeYards {
		if !isValid {
			list = append(list, s)
		}
	}
	return append(list, strangeTexts()...)
}

func TestTextsOfYards(t *testing.T) {
	for _, s := range nearlyYards() {
		y, ok := impl.ReadYard(s)
		expect(t, fmt.Sprintf("ReadYard(%.100q)", s), results(y, ok), "[{0 []} false]")
	}
	for s, isValid := range edgeYards {
		if isValid {
			expect(t, "ReadYard("+s+")", shownYard(impl.ReadYard(s)), s)
		}
	}
	for _, y := range append(sampleYards(), smallYards()...) {
		want := yardText(y)
		text, ok := impl.YardText(y)
		expect(t, "YardText", results(text, ok), results(want, true))
		read, ok := impl.ReadYard(text)
		expect(t, "ReadYard("+text+")", results(read, ok), results(y, true))
	}
}

// TestReadYardOfChangedTexts takes, adds and replaces each byte of a text.
func TestReadYardOfChangedTexts(t *testing.T) {
	for _, s := range []string{"2:0,1|-", "4:10,99|-|3,2,1|0", "1:-"} {
		for i := range len(s) + 1 {
			for _, with := range []string{"", "0", "1", "4", "5", "-", ",", "|", ":", " ", "+"} {
				checkReadYard(t, s[:i]+with+s[i:])
				if i < len(s) {
					checkReadYard(t, s[:i]+with+s[i+1:])
				}
			}
		}
	}
}

// formOfYards is that of all texts of valid yards.
var formOfYards = regexp.MustCompile(`^\d:(-|\d+(,\d+)*)(\|(-|\d+(,\d+)*))*$`)

// checkReadYard reads a text, which is that of a valid yard exactly if this yard is returned.
func checkReadYard(t *testing.T, s string) {
	t.Helper()
	want := "[{0 []} false]"
	if formOfYards.MatchString(s) {
		if y := yard(s); yardIsValid(y) && yardText(y) == s {
			want = s
		}
	}
	expect(t, fmt.Sprintf("ReadYard(%q)", s), shownYard(impl.ReadYard(s)), want)
}
