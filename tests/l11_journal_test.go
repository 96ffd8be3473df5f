package tests

import (
	"fmt"
	"math/rand"
	"regexp"
	"slices"
	"strings"
	"testing"

	"loop.example/g01099/impl"
)

// checkAfter reckons a check number byte by byte.
func checkAfter(start int64, s string) int64 {
	for _, b := range []byte(s) {
		start = (257*start + int64(b) + 1) % 99991
	}
	return start
}

// journalOf writes the journal of valid deeds as the document says.
func journalOf(list []impl.Deed) string {
	s, check := "", int64(1)
	for _, x := range list {
		check = checkAfter(check, deedText(x))
		s += fmt.Sprintf("%d %s\n", check, deedText(x))
	}
	return s
}

// formOfDeeds is that of all texts of valid deeds.
var formOfDeeds = regexp.MustCompile(`^((push|grout)( -?\d{1,9}){3}|build [st]\d{1,9})$`)

// deedIn returns the valid deed whose text is s, if there is one.
func deedIn(s string) (impl.Deed, bool) {
	if formOfDeeds.MatchString(s) {
		if x := deed(s); deedIsValid(x) && deedText(x) == s {
			return x, true
		}
	}
	return impl.Deed{}, false
}

// intactOf returns the deeds of the intact lines at the beginning of a text, and how long these lines are.
func intactOf(s string) (list []impl.Deed, length int) {
	check := int64(1)
	for len(list) < 60 {
		line, _, isEnded := strings.Cut(s[length:], "\n")
		number, text, _ := strings.Cut(line, " ")
		x, isDeed := deedIn(text)
		next := checkAfter(check, text)
		if !isEnded || !isDeed || number != fmt.Sprint(next) {
			break
		}
		list, length, check = append(list, x), length+len(line)+1, next
	}
	return list, length
}

// validDeeds are valid deeds at the limits, and far from them.
func validDeeds() []impl.Deed {
	var list []impl.Deed
	for s, isValid := range edgeDeeds {
		if isValid {
			list = append(list, deed(s))
		}
	}
	slices.SortFunc(list, func(a, b impl.Deed) int { return strings.Compare(deedText(a), deedText(b)) })
	for _, r := range allRings() {
		list = append(list, impl.Deed{Kind: 2, Ring: r})
	}
	random := rand.New(rand.NewSource(115))
	for len(list) < 500 {
		list = append(list, randomDeed(random, straight(3, "")), impl.Deed{Kind: 1, Bend: random.Int63n(25) - 12, Rise: random.Int63n(25) - 12, Weight: random.Int63n(1000001)})
	}
	return list
}

func TestTextsOfDeeds(t *testing.T) {
	for _, x := range validDeeds() {
		want := deedText(x)
		text, ok := impl.DeedText(x)
		expect(t, "DeedText("+want+")", results(text, ok), results(want, true))
		read, ok := impl.ReadDeed(want)
		expect(t, "ReadDeed("+want+")", results(read, ok), results(x, true))
	}
	expect(t, "texts of the document", results(impl.ReadDeed("build t3")), results(impl.Deed{Kind: 2, Ring: impl.Ring{Kind: 1, Key: 3}}, true))
	expect(t, "texts of the document", results(impl.ReadDeed("push 1 0 90000")), results(impl.Deed{Kind: 1, Bend: 1, Weight: 90000}, true))
}

// badDeeds are not valid.
func badDeeds() []impl.Deed {
	list := []impl.Deed{{}, {Kind: -1}, {Kind: 4}, {Kind: 5, Bend: 1}, {Kind: 2, Ring: impl.Ring{Kind: 2}}, {Kind: 2, Ring: impl.Ring{Kind: -1}}}
	for s, isValid := range edgeDeeds {
		if !isValid {
			list = append(list, deed(s))
		}
	}
	for _, s := range []string{"push 0 0 90000", "build s0", "grout 1 2 3"} {
		for field := range 8 {
			x := deed(s)
			if *fieldsOf(&x)[field]++; !deedIsValid(x) {
				list = append(list, x)
			}
		}
	}
	return list
}

func TestTextsOfDeedsThatAreNotValid(t *testing.T) {
	list := badDeeds()
	if len(list) < 35 {
		t.Errorf("there are %d bad deeds", len(list))
	}
	for _, x := range list {
		text, one := impl.DeedText(x)
		journal, two := impl.JournalText([]impl.Deed{x})
		first, three := impl.JournalText([]impl.Deed{x, deed("push 0 0 0")})
		last, four := impl.JournalText([]impl.Deed{deed("push 0 0 0"), x})
		got := results(impl.ValidDeed(x), text, one, journal, two, first, three, last, four)
		expect(t, fmt.Sprintf("texts of %v", x), got, "[false  false  false  false  false]")
	}
	for s, isValid := range edgeDeeds {
		if !isValid {
			x, ok := impl.ReadDeed(s)
			expect(t, "ReadDeed("+s+")", results(x, ok), results(impl.Deed{}, false))
		}
	}
}

// nearlyDeeds are texts that are not quite those of a deed.
func nearlyDeeds() []string {
	list := []string{
		"push", "build", "grout", "push ", "build ", "grout ", "push 1", "push 1 0", "push 1 0 ", "push 1 0 5 ", "push 1 0 5 6", "push 1 0 5\n", "push 1 0 5\x00", "\npush 1 0 5", " push 1 0 5", "push  1 0 5", "push 1  0 5", "push 1 0  5", "push\t1 0 5", "push 1\t0 5", "push 1 0\t5", "push\n1 0 5", "push 1\n0 5", "push 1,0,5", "push1 0 5", "push 1 05", "push 10 5", "1 0 5", "Push 1 0 5", "PUSH 1 0 5", "pus 1 0 5", "pushh 1 0 5", "push-1 0 5", "push 1 0 5 push 1 0 5", "push 1 0 5\npush 1 0 5",
		"push +1 0 5", "push 01 0 5", "push 1 00 5", "push 1 0 05", "push 1 0 +5", "push -0 0 5", "push 1 -0 5", "push 1 0 -0", "push 1 0 5.0", "push 1 0 5e1", "push 1 0 1_0", "push 1 0 0x5", "push 1 0 a", "push a 0 5", "push 1 - 5", "push 1 0 -", "push 1 0 ٣", "push 1.0 0 5", "push -12 12 1000001", "push 13 0 5", "push 0 -13 5", "push 1 0 -5", "push 18446744073709551617 0 5", "push 0 18446744073709551617 5", "push 0 0 18446744073709551617",
		"build t", "build 3", "build t3 ", " build t3", "build  t3", "build t3 t5", "build t3\n", "build\tt3", "build\nt3", "buildt3", "build t 3", "build t03", "build t+3", "build t-0", "build t-1", "build t16", "build s16", "build T3", "build x3", "build 3t", "build tt3", "build st3", "build t3,t5", "build t3.", "build t3 5", "build t18446744073709551619", "Build t3", "build", "builds t3", "t3", "build s", "build ss", "build \xff3",
		"grout 1 2", "grout 1 2 ", "grout 1 2 3 ", "grout 1 2 3 4", " grout 1 2 3", "grout  1 2 3", "grout 1  2 3", "grout 1 2  3", "grout 1,2,3", "grout 01 2 3", "grout 1 02 3", "grout 1 2 03", "grout +1 2 3", "grout 1 +2 3", "grout 1 2 +3", "grout -1 2 3", "grout 1 -2 3", "grout 1 2 -3", "grout -0 2 3", "grout 100001 2 3", "grout 1 100001 3", "grout 1 2 101", "grout 1 2 3\n", "grout t3", "push t3", "build 1 2 3", "Grout 1 2 3", "grout 1 2 3/", "grout\t1 2 3",
		"rings", "off", "what", "ok", "no", "settled 0", "next 1", "1 push 1 0 5", "257 push 1 0 5", "push 1 0 5 # a push", "\xff", "push \xff 0 5", "push 1 0 5\xff", "push\u00a01 0 5",
		"push 1 0 " + strings.Repeat("5", 100000), "push 1 0 5" + strings.Repeat(" ", 100000), strings.Repeat("push ", 100000), strings.Repeat(" ", 100000), "build t" + strings.Repeat("0", 100000) + "3", "push" + strings.Repeat(" 1", 100000), "grout " + strings.Repeat("0", 100000) + "1 2 3",
	}
	return append(list, strangeTexts()...)
}

func TestReadDeedRefusesOtherTexts(t *testing.T) {
	for _, s := range nearlyDeeds() {
		x, ok := impl.ReadDeed(s)
		expect(t, fmt.Sprintf("ReadDeed(%.60q)", s), results(x, ok), results(impl.Deed{}, false))
	}
}

// TestReadDeedOfChangedTexts takes, adds and replaces each byte of a text.
func TestReadDeedOfChangedTexts(t *testing.T) {
	counts := map[bool]int{}
	for _, s := range []string{"push 1 0 90000", "push -12 12 1000000", "build t3", "build s15", "grout 100 90 10", "grout 0 100000 100"} {
		for i := range len(s) + 1 {
			for b := range 256 {
				texts := []string{s[:i] + string([]byte{byte(b)}) + s[i:]}
				if i < len(s) {
					texts = append(texts, s[:i]+string([]byte{byte(b)})+s[i+1:], s[:i]+s[i+1:], s[:i])
				}
				for _, text := range texts {
					want, isDeed := deedIn(text)
					counts[isDeed]++
					x, ok := impl.ReadDeed(text)
					expect(t, fmt.Sprintf("ReadDeed(%q)", text), results(x, ok), results(want, isDeed))
				}
			}
		}
	}
	if counts[true] < 200 || counts[false] < 10000 {
		t.Errorf("texts of deeds: %v", counts)
	}
}

// docJournal has check numbers that were reckoned apart from these tests.
const docJournal = "37159 push 1 0 90000\n24794 build t3\n89909 grout 100 90 10\n51040 push -12 12 1000000\n"

func TestJournalText(t *testing.T) {
	list := deeds("push 1 0 90000;build t3;grout 100 90 10;push -12 12 1000000")
	text, ok := impl.JournalText(list)
	expect(t, "JournalText", results(text, ok), results(docJournal, true))
	read, ok := impl.ReadJournal(docJournal)
	expect(t, "ReadJournal", results(read, ok), results(list, true))
	text, one := impl.JournalText(nil)
	read, two := impl.ReadJournal("")
	found, length, three := impl.RecoverJournal("")
	expect(t, "the empty journal", results(text, one, read, two, found, length, three), "[ true [] true [] 0 true]")
}

func TestJournalsUpToMaxDeeds(t *testing.T) {
	random := rand.New(rand.NewSource(116))
	all := validDeeds()
	for n := range 64 {
		var list []impl.Deed
		for range n {
			list = append(list, all[random.Intn(len(all))])
		}
		whole := journalOf(list)
		wantText, wantDeeds := whole, list
		if n > 60 {
			wantText, wantDeeds = "", nil
		}
		text, one := impl.JournalText(list)
		read, two := impl.ReadJournal(whole)
		expect(t, fmt.Sprintf("a journal of %d deeds", n), results(text, one, read, two), results(wantText, n <= 60, wantDeeds, n <= 60))
		first := list[:min(n, 60)]
		found, length, ok := impl.RecoverJournal(whole)
		expect(t, fmt.Sprintf("RecoverJournal of %d deeds", n), results(found, length, ok), results(first, len(journalOf(first)), true))
	}
	// No journal is longer than this one with the longest deeds.
	longest := journalOf(slices.Repeat(deeds("grout 100000 100000 100"), 60))
	if len(longest) > impl.MaxJournal {
		t.Errorf("a journal has %d bytes", len(longest))
	}
}

// checkJournal reads and recovers a text, and compares the deeds with those of its intact lines.
func checkJournal(t *testing.T, s string) {
	t.Helper()
	list, length := intactOf(s)
	var whole []impl.Deed
	isWhole := length == len(s)
	if isWhole {
		whole = list
	}
	read, ok := impl.ReadJournal(s)
	expect(t, fmt.Sprintf("ReadJournal(%.200q)", s), results(read, ok), results(whole, isWhole))
	want := results(list, length, true)
	if len(s) > 4000 {
		want = "[[] 0 false]"
	}
	found, n, ok := impl.RecoverJournal(s)
	expect(t, fmt.Sprintf("RecoverJournal(%.200q)", s), results(found, n, ok), want)
}

// linesOf returns the lines of a text, each of which ends with a newline.
func linesOf(s string) []string {
	lines := strings.SplitAfter(s, "\n")
	return lines[:len(lines)-1]
}

func TestChangedLinesOfJournals(t *testing.T) {
	lines := linesOf(docJournal)
	first := strings.SplitN(docJournal, " ", 2)
	for _, s := range []string{
		docJournal, docJournal + docJournal, docJournal + "\n", "\n" + docJournal, " " + docJournal, docJournal + " ", docJournal + "x", docJournal + "1 push", docJournal + "1 push 0 0 0\n", docJournal + lines[3], docJournal + lines[0],
		strings.TrimSuffix(docJournal, "\n"), strings.ReplaceAll(docJournal, "\n", "\r\n"), strings.ReplaceAll(docJournal, "\n", "\n\n"), strings.ReplaceAll(docJournal, "\n", ""), strings.ReplaceAll(docJournal, "\n", " "), strings.ReplaceAll(docJournal, " ", "  "), strings.ToUpper(docJournal),
		lines[1] + lines[0] + lines[2] + lines[3], lines[0] + lines[2] + lines[1] + lines[3], lines[0] + lines[1] + lines[3] + lines[2],
		lines[1] + lines[2] + lines[3], lines[0] + lines[2] + lines[3], lines[0] + lines[1] + lines[3], lines[0] + lines[1] + lines[2],
		lines[0] + lines[0] + lines[1], lines[0] + lines[1] + lines[1], lines[0] + lines[1] + lines[2] + lines[2] + lines[3],
		first[1], "1 " + first[1], "0 " + first[1], "+" + docJournal, "0" + docJournal, "-" + docJournal, strings.Replace(docJournal, " ", "", 1), strings.Replace(docJournal, " ", "\n", 1), strings.Replace(docJournal, "\n", " ", 1),
		"\n", " \n", "1\n", "1 \n", "0 \n", "push 0 0 0\n", "1 push 0 0 0\n", "0 push 0 0 0\n", "1", "-", "\x00",
		// All check numbers of these are right, but the deeds are not valid, or are not written as they should be.
		fmt.Sprintf("%d push 0 0 00\n", checkAfter(1, "push 0 0 00")), fmt.Sprintf("%d push 13 0 0\n", checkAfter(1, "push 13 0 0")), fmt.Sprintf("%d push 0 0 \n", checkAfter(1, "push 0 0 ")), fmt.Sprintf("%d push 0 0 0 \n", checkAfter(1, "push 0 0 0 ")), fmt.Sprintf("%d \n", checkAfter(1, "")), fmt.Sprintf("%d build t3 t5\n", checkAfter(1, "build t3 t5")), fmt.Sprintf("%d rings\n", checkAfter(1, "rings")),
		fmt.Sprintf("%d build t3\r\n", checkAfter(1, "build t3\r")), fmt.Sprintf("%d build t3\n", checkAfter(1, "build t3\n")), fmt.Sprintf("%d build t3\n", checkAfter(0, "build t3")), fmt.Sprintf("%d build t3\n", checkAfter(1, " build t3")), fmt.Sprintf("%d build t3\n", checkAfter(1, "build t3")+99991), fmt.Sprintf("%d build t3\n", checkAfter(1, "build t3")),
		strings.Repeat("\n", 4000), strings.Repeat("1", 4000), strings.Repeat(" ", 4000), strings.Repeat("1 build t3\n", 100), strings.Repeat("1", 100000), strings.Repeat(docJournal, 1000), docJournal + strings.Repeat("x", 100000),
	} {
		checkJournal(t, s)
	}
	// The second line of each journal does not go on from the first one, but begins anew.
	for _, x := range validDeeds()[:60] {
		checkJournal(t, lines[0]+journalOf([]impl.Deed{x}))
		checkJournal(t, journalOf([]impl.Deed{x, x}))
	}
	// Check numbers that are one more or one less.
	for i := range lines {
		var number int64
		text := lines[i][strings.Index(lines[i], " "):]
		fmt.Sscan(lines[i], &number)
		for _, more := range []int64{-1, 0, 1, 99991} {
			changed := slices.Clone(lines)
			changed[i] = fmt.Sprint(number+more) + text
			checkJournal(t, strings.Join(changed, ""))
		}
	}
}

// TestChangedBytesOfJournals changes, cuts and puts in each single byte.
func TestChangedBytesOfJournals(t *testing.T) {
	for i := range len(docJournal) + 1 {
		checkJournal(t, docJournal[:i])
		if i < len(docJournal) {
			checkJournal(t, docJournal[:i]+docJournal[i+1:])
			checkJournal(t, docJournal[i:])
		}
		for b := range 256 {
			one := string([]byte{byte(b)})
			checkJournal(t, docJournal[:i]+one+docJournal[i:])
			if i < len(docJournal) {
				checkJournal(t, docJournal[:i]+one+docJournal[i+1:])
			}
		}
	}
}

// TestEverySingleByteMatters changes one byte of a journal, which then is no journal any more, and loses no line in front of this byte.
func TestEverySingleByteMatters(t *testing.T) {
	for i := range len(docJournal) {
		for b := range 256 {
			if byte(b) == docJournal[i] {
				continue
			}
			s := docJournal[:i] + string([]byte{byte(b)}) + docJournal[i+1:]
			read, one := impl.ReadJournal(s)
			found, length, two := impl.RecoverJournal(s)
			lines, intact := strings.Count(docJournal[:i], "\n"), strings.LastIndex(docJournal[:i], "\n")+1
			got := results(read, one, len(found), length, two)
			expect(t, fmt.Sprintf("the journal with the byte %d at %d", b, i), got, results("[]", false, lines, intact, true))
		}
	}
}

// TestRecoverJournalTriesAllBeginnings cuts a journal of many deeds at each of its bytes, and tries the journals of all beginnings of these deeds.
func TestRecoverJournalTriesAllBeginnings(t *testing.T) {
	all := validDeeds()
	list := append(slices.Clone(all[:30]), all[100:130]...)
	var beginnings []string
	for n := range len(list) + 1 {
		beginnings = append(beginnings, journalOf(list[:n]))
	}
	whole := beginnings[len(list)]
	for i := range len(whole) + 1 {
		for _, behind := range []string{"", "\n", "7", " ", "x\n", "1 push 0 0 0\n"} {
			s := whole[:i] + behind
			best := 0
			for n, journal := range beginnings {
				if strings.HasPrefix(s, journal) {
					best = n
				}
			}
			found, length, ok := impl.RecoverJournal(s)
			expect(t, fmt.Sprintf("RecoverJournal of %d bytes and %q", i, behind), results(found, length, ok), results(list[:best], len(beginnings[best]), true))
		}
	}
}

func TestRecoverJournalUpToMaxJournal(t *testing.T) {
	longest := journalOf(slices.Repeat(deeds("grout 100000 100000 100"), 60))
	for _, s := range []string{"", docJournal, longest, longest + "1 push 0 0 0\n"} {
		for _, n := range []int{3999, 4000, 4001, 4002} {
			for _, fill := range []string{"x", "\n", " ", "1"} {
				checkJournal(t, s+strings.Repeat(fill, n-len(s)))
			}
		}
	}
	// A beginning that is not intact hides what is behind it.
	for _, s := range []string{"x" + docJournal, "1 push 0 0 0\n" + docJournal, "\n" + docJournal} {
		found, length, ok := impl.RecoverJournal(s)
		expect(t, fmt.Sprintf("RecoverJournal(%q)", s), results(found, length, ok), "[[] 0 true]")
	}
	found, length, ok := impl.RecoverJournal(longest + strings.Repeat("x", 4000-len(longest)))
	expect(t, "RecoverJournal of 4000 bytes", results(len(found), length, ok), results(60, len(longest), true))
	found, length, ok = impl.RecoverJournal(longest + strings.Repeat("x", 4001-len(longest)))
	expect(t, "RecoverJournal of 4001 bytes", results(found, length, ok), "[[] 0 false]")
}

func TestReplayJournal(t *testing.T) {
	for s, want := range map[string]bool{
		"":                                true,
		"push 0 0 1":                      true,
		"build s0":                        false,
		"grout 1 2 3":                     false,
		"push 0 0 1;build t3":             true,
		"push 0 0 1;push 0 0 1":           false,
		"push 0 0 1;push 0 0 1;build s0":  false,
		straightRings(3) + ";grout 1 2 3": true,
		straightRings(3) + ";push 0 0 1":  false,
		straightRings(3) + ";build s0":    false,
		"grout 1 2 3;" + straightRings(3): false,
		"push 0 0 1;build t3;grout 1 2 3;push 0 0 1;build s1": true,
		"push 0 0 1;build t3;grout 1 2 3;push 0 0 1;build s3": false,
	} {
		list := deeds(s)
		wanted := noDrive
		if want {
			wanted = after(straight(3, ""), s)
		}
		d, ok := impl.ReplayJournal(straight(3, ""), journalOf(list))
		expect(t, "ReplayJournal of "+s, results(d, ok), results(wanted, want))
	}
	for _, s := range []string{"x", "\n", " ", "build t3\n", docJournal[1:], docJournal[:len(docJournal)-1], docJournal + "\n", docJournal + "x", strings.Repeat("x", 5000)} {
		d, ok := impl.ReplayJournal(straight(3, ""), s)
		expect(t, fmt.Sprintf("ReplayJournal(%.60q)", s), results(d, ok), results(noDrive, false))
	}
	// The first deeds can be done, but what is behind them is no line of a journal.
	d, ok := impl.ReplayJournal(straight(3, ""), journalOf(deeds("push 0 0 1;build t3"))+"x")
	expect(t, "ReplayJournal with something behind the journal", results(d, ok), results(noDrive, false))
}

// TestReplayJournalUpToMaxDeeds goes on from drives that are not new.
func TestReplayJournalUpToMaxDeeds(t *testing.T) {
	first, second := deeds(straightRings(30)), deeds(straightRings(30))
	d, one := impl.ReplayJournal(straight(60, ""), journalOf(first))
	e, two := impl.ReplayJournal(d, journalOf(second))
	want, _ := doneAll(straight(60, straightRings(30)), second)
	expect(t, "two journals of 60 deeds", results(d, e, one, two), results(straight(60, straightRings(30)), want, true, true))
	f, three := impl.ReplayJournal(e, journalOf(deeds("push 0 0 1")))
	g, four := impl.ReplayJournal(e, journalOf(deeds("grout 1 2 3")))
	expect(t, "journals behind the last ring", results(f, three, len(g.Grouts), four), results(noDrive, false, 1, true))
	h, five := impl.ReplayJournal(straight(60, ""), journalOf(append(first, deed("push 0 0 1"))))
	expect(t, "a journal of 61 deeds", results(h, five), results(noDrive, false))
}
