package tests

import (
	"fmt"
	"math/rand"
	"regexp"
	"strings"
	"testing"

	"loop.example/g01099/impl"
)

// formOfQuestions is that of all questions with a number, which may be out of its range.
var formOfQuestions = regexp.MustCompile(`^(settled|next) (0|-?[1-9]\d{0,9})$`)

// alarmIn returns the output for the question of a valid drive whether there is an alarm.
func alarmIn(d impl.Drive) string {
	alarm := strings.Trim(firstAlarm(d.Balance, d.Allowance, d.Limit), "[]")
	if rings, isRaised := strings.CutSuffix(alarm, " true"); isRaised {
		return rings
	}
	return "calm"
}

// ringsAhead returns the text of the best tube of some rings behind those of a valid drive.
func ringsAhead(d impl.Drive, count int64) string {
	before := ring("s0")
	if len(d.Built) > 0 {
		before = d.Built[len(d.Built)-1]
	}
	if count < 1 || count > 4 || int(count)+len(d.Built) >= len(posesOf(d.Axis)) {
		return "no"
	}
	best, _, _ := bestTube(d.Axis, int64(len(d.Built)), d.Machine.Tube, before, count)
	if best == nil {
		return "no"
	}
	return tubeText(best)
}

func settledIn(d impl.Drive, width int64) string {
	list, isAbove := lossesBehind(d, width)
	if !isAbove {
		return "no"
	}
	return commas(settlementsOf(list))
}

// answerOf returns the output for a line that is not the text of a deed.
func answerOf(d impl.Drive, line string) string {
	switch line {
	case "rings":
		return fmt.Sprint(len(d.Built))
	case "off":
		side, height := offAxis(d)
		return fmt.Sprintf("%d %d", side, height)
	case "gaps":
		return commas(gapsOf(d.Machine))
	case "strokes":
		return commas(strokesOf(d.Machine))
	case "expected":
		if n, ok := expectedOf(d); ok {
			return fmt.Sprint(n)
		}
		return "no"
	case "alarm":
		return alarmIn(d)
	}
	words := formOfQuestions.FindStringSubmatch(line)
	if words == nil || !areFrom(-1000000000, 1000000000, numbers(words[2])[0]) {
		return "what"
	}
	if words[1] == "next" {
		return ringsAhead(d, numbers(words[2])[0])
	}
	return settledIn(d, numbers(words[2])[0])
}

// executed returns the drive after a line of a script, and the output for it.
func executed(d impl.Drive, line string) (impl.Drive, string) {
	x, isDeed := deedIn(line)
	if !isDeed {
		return d, answerOf(d, line)
	}
	if next, ok := doneOf(d, x); ok {
		return next, "ok"
	}
	return d, "no"
}

// outputOf returns the output for the lines of a script that has the form of one.
func outputOf(d impl.Drive, script string) string {
	s := ""
	for _, line := range linesOf(script) {
		next, output := executed(d, strings.TrimSuffix(line, "\n"))
		s += output + "\n"
		d = next
	}
	return s
}

// asLines returns the script of lines that are separated by semicolons.
func asLines(s string) string {
	if s == "" {
		return ""
	}
	return strings.ReplaceAll(s, ";", "\n") + "\n"
}

func TestRunScript(t *testing.T) {
	zeros := strings.TrimSuffix(strings.Repeat("0,", 24), ",")
	for s, want := range map[string]string{
		"":                               "",
		"rings":                          "0",
		"off":                            "0 0",
		"gaps":                           "40,40,40,40",
		"strokes":                        "300,300,300,300",
		"expected":                       "90000",
		"alarm":                          "calm",
		"settled 0":                      zeros,
		"settled 5":                      zeros,
		"settled 6":                      "no",
		"settled -1":                     "no",
		"settled 1000000000":             "no",
		"settled -1000000000":            "no",
		"next 0":                         "no",
		"next 1":                         "s2",
		"next 3":                         "s2 s0 s2",
		"next 4":                         "no",
		"next 5":                         "no",
		"next -1":                        "no",
		"next -1000000000":               "no",
		"push 1 0 91000":                 "ok",
		"build t3":                       "no",
		"grout 1 2 3":                    "no",
		"push 0 0 1;push 0 0 1":          "ok;no",
		"push 0 0 1;build s0;rings":      "ok;ok;1",
		"push 0 0 1;grout 1 2 3;rings":   "ok;no;0",
		"push 2 1 0;gaps;strokes":        "ok;36,38,44,42;1796,1798,1804,1802",
		"push 2 1 0;build t2;off;next 1": "ok;ok;0 0;s0",
		"push 0 0 0;build t2;push 0 0 0;build s0;off;gaps":                            "ok;ok;ok;ok;7 7;33,33,47,47",
		"push 0 0 91501;alarm;expected;build s0;alarm":                                "ok;0 0;90000;ok;0 0",
		"push 0 0 90000;build s0;push 0 0 92000;build s2;alarm":                       "ok;ok;ok;ok;1 1",
		"push 0 0 1;build s0;grout 100 90 10;settled 0;settled 1":                     "ok;ok;ok;19" + zeros[1:] + ";no",
		"push 0 0 1;build s0;push 0 0 1;build s2;push 0 0 1;expected;build s0;next 1": "ok;ok;ok;ok;ok;no;ok;no",
		"push 0 0 1;build s0;grout 1 2 3;grout 1 2 3;rings":                           "ok;ok;ok;no;1",
		"fly":         "what",
		"fly;rings":   "what;0",
		"rings;rings": "0;0",
		// Nothing but newlines.
		";":          "what;what",
		";;;":        "what;what;what;what",
		"rings;;off": "0;what;0 0",
	} {
		script := asLines(s)
		output, ok := impl.RunScript(straight(3, ""), script)
		expect(t, "RunScript of "+s, results(output, ok), results(asLines(want), true))
		expect(t, "the output in the tests of "+s, outputOf(straight(3, ""), script), asLines(want))
	}
	output, ok := impl.RunScript(straight(5, "push 0 0 1;build s3"), "next 4\nnext 3\nrings\n")
	expect(t, "RunScript of another drive", results(output, ok), results("s1 s3 s1 s3\ns1 s3 s1\n1\n", true))
}

func TestScriptsThatAreNone(t *testing.T) {
	for _, s := range []string{"rings", "\nrings", "rings\nrings", "rings\r", " ", "x", "push 0 0 0", "rings\n\nrings", "\x00", "rings\n "} {
		output, ok := impl.RunScript(straight(3, ""), s)
		expect(t, fmt.Sprintf("RunScript(%q)", s), results(output, ok), "[ false]")
	}
}

func TestScriptsAtTheirLimits(t *testing.T) {
	for _, n := range []int{0, 1, 49, 50, 51, 52, 1000} {
		for _, line := range []string{"\n", "rings\n", "push 0 0 0\n"} {
			script := strings.Repeat(line, n)
			want, isScript := "", n <= 50
			if isScript {
				want = outputOf(straight(60, ""), script)
			}
			output, ok := impl.RunScript(straight(60, ""), script)
			expect(t, fmt.Sprintf("%d lines %q", n, line), results(output, ok), results(want, isScript))
		}
	}
	for _, n := range []int{2998, 2999, 3000, 3001, 3002, 100000} {
		// One line, two lines, and fifty lines.
		one := strings.Repeat("x", n-1) + "\n"
		two := "rings\n" + strings.Repeat(" ", n-7) + "\n"
		fifty := strings.Repeat("rings\n", 49) + strings.Repeat("7", n-49*6-1) + "\n"
		for script, want := range map[string]string{one: "what\n", two: "0\nwhat\n", fifty: strings.Repeat("0\n", 49) + "what\n"} {
			if n > 3000 {
				want = ""
			}
			output, ok := impl.RunScript(straight(3, ""), script)
			expect(t, fmt.Sprintf("a script of %d bytes", len(script)), results(output, ok), results(want, n <= 3000))
		}
	}
	// Many newlines in few bytes, and a script that only lacks its last newline.
	for _, script := range []string{strings.Repeat("\n", 3000), strings.Repeat("\n", 100000), strings.Repeat("rings\n", 49) + "rings", strings.Repeat("rings\n", 50) + "rings", strings.Repeat("x", 3000)} {
		output, ok := impl.RunScript(straight(3, ""), script)
		expect(t, fmt.Sprintf("RunScript(%.60q)", script), results(output, ok), "[ false]")
	}
}

// nearlyLines are not quite lines of the table, so that they are any other ones.
func nearlyLines() []string {
	list := []string{
		"", " ", "rings ", " rings", "rings 1", "rings rings", "ring", "ringss", "Rings", "RINGS", "rings\t", "rings\r", "rings\x00", "\xffrings", "rings,",
		"off ", " off", "off 1", "of", "offf", "off off", "gaps ", " gaps", "gaps 1", "gap", "strokes ", " strokes", "strokes 1", "stroke", "gaps strokes",
		"expected ", " expected", "expected 1", "expect", "expected expected", "alarm ", " alarm", "alarm 1", "alarms", "calm", "no", "ok", "what",
		"settled", "settled ", " settled 0", "settled 0 ", "settled  0", "settled 0 0", "settled\t0", "settled0", "settled 00", "settled +0", "settled -0", "settled 01", "settled +1", "settled -01", "settled 0.0", "settled 1e0", "settled a", "settled -", "settled --1", "settled ٣", "settled 1000000001", "settled -1000000001", "settled 18446744073709551616", "settled settled", "settled rings", "Settled 0", "settle 0", "settledd 0", "settled,0", "settled 0\r",
		"next", "next ", " next 1", "next 1 ", "next  1", "next 1 1", "next\t1", "next1", "next 01", "next +1", "next -0", "next 00", "next 1.0", "next one", "next t3", "next -", "next 1000000001", "next -1000000001", "next 18446744073709551617", "Next 1", "nex 1", "nextt 1", "next next", "next 1,2", "next 1\r",
		"settled 0 1", "next 1 2", "rings settled 0", "1 build t3", "75985 build t3",
	}
	for _, s := range nearlyDeeds() {
		if len(s) < 60 && !strings.Contains(s, "\n") && !strings.Contains(" rings off settled 0 next 1 ", " "+s+" ") {
			list = append(list, s)
		}
	}
	for s, isValid := range edgeDeeds {
		if !isValid {
			list = append(list, s)
		}
	}
	return list
}

func TestAnyOtherLine(t *testing.T) {
	for _, d := range []impl.Drive{straight(3, ""), straight(3, "push 0 0 0"), straight(3, straightRings(3))} {
		for _, s := range nearlyLines() {
			output, ok := impl.RunScript(d, s+"\n")
			expect(t, fmt.Sprintf("RunScript(%q)", s), results(output, ok), results("what\n", true))
		}
	}
}

// TestChangedBytesOfScripts takes, adds and replaces each byte of each kind of line.
func TestChangedBytesOfScripts(t *testing.T) {
	d := straight(3, straightRings(1))
	known := 0
	for _, s := range []string{"rings\n", "off\n", "gaps\n", "strokes\n", "expected\n", "alarm\n", "settled 0\n", "settled -1\n", "next 1\n", "push 1 0 5\n", "build t2\n", "grout 1 2 3\n"} {
		for i := range len(s) + 1 {
			for b := range 256 {
				texts := []string{s[:i] + string([]byte{byte(b)}) + s[i:]}
				if i < len(s) {
					texts = append(texts, s[:i]+string([]byte{byte(b)})+s[i+1:], s[:i]+s[i+1:], s[:i])
				}
				for _, text := range texts {
					want, isScript := "", text == "" || strings.HasSuffix(text, "\n")
					if isScript {
						want = outputOf(d, text)
					}
					if isScript && want != "what\n" {
						known++
					}
					output, ok := impl.RunScript(d, text)
					expect(t, fmt.Sprintf("RunScript(%q)", text), results(output, ok), results(want, isScript))
				}
			}
		}
	}
	if known < 500 {
		t.Errorf("only %d lines are known", known)
	}
}

// allQuestions has each question once.
const allQuestions = "rings\noff\ngaps\nstrokes\nexpected\nalarm\nsettled 0\nsettled 2\nnext 1\nnext 2\n"

// TestQuestionsOfManyDrives asks all questions, and asks them again behind deeds that cannot be done.
func TestQuestionsOfManyDrives(t *testing.T) {
	random := rand.New(rand.NewSource(117))
	refused := 0
	for _, d := range sampleDrives() {
		want := outputOf(d, allQuestions)
		script, wanted := allQuestions, want
		for range 5 {
			x := randomDeed(random, d)
			if _, ok := doneOf(d, x); !ok {
				refused++
				script, wanted = script+deedText(x)+"\n", wanted+"no\n"
			}
		}
		output, ok := impl.RunScript(d, script+allQuestions)
		expect(t, "RunScript of "+shownDrive(d), results(output, ok), results(wanted+want, true))
		text, one := impl.ListText(gapsOf(d.Machine))
		list, two := impl.ListText(strokesOf(d.Machine))
		output, ok = impl.RunScript(d, "gaps\nstrokes\n")
		expect(t, "gaps and strokes of "+shownDrive(d), results(output, ok), results(text+"\n"+list+"\n", one && two))
	}
	if refused < 200 {
		t.Errorf("only %d deeds are refused", refused)
	}
}

// randomLine returns a line of a script: a deed, a question, or another line.
func randomLine(random *rand.Rand, d impl.Drive) string {
	if random.Intn(3) > 0 {
		return deedText(randomDeed(random, d))
	}
	questions := strings.Split(strings.TrimSuffix(allQuestions, "\n"), "\n")
	list := append(questions, "", "fly", "settled", "settled 1", "settled 6", "next 0", "next -1", "next 9", "next one", "push 1", "build", "alarm 1")
	return list[random.Intn(len(list))]
}

// TestScriptsLineByLine compares scripts with their lines, each of which is a script of its own that a copy of the drive executes.
func TestScriptsLineByLine(t *testing.T) {
	random := rand.New(rand.NewSource(118))
	counts := map[string]int{}
	for range 400 {
		first := randomDrive(random)
		d, script, want, single := first, "", "", ""
		for range random.Intn(51) {
			line := randomLine(random, d)
			one, ok := impl.RunScript(d, line+"\n")
			if !ok {
				t.Errorf("RunScript(%q) fails", line)
			}
			single += one
			if x, isDeed := impl.ReadDeed(line); isDeed {
				if next, ok := impl.DoDeed(d, x); ok != (one == "ok\n") {
					t.Errorf("%s outputs %s", line, one)
				} else if ok {
					d = next
				}
			}
			script += line + "\n"
		}
		want = outputOf(first, script)
		for _, line := range linesOf(want) {
			counts[strings.TrimSuffix(line, "\n")]++
		}
		output, ok := impl.RunScript(first, script)
		expect(t, fmt.Sprintf("RunScript(%q)", script), results(output, single, ok), results(want, want, true))
	}
	if min(counts["ok"], counts["no"], counts["what"], counts["calm"]) < 50 || len(counts) < 300 {
		t.Errorf("%d outputs, among them %d ok, %d no, %d what and %d calm", len(counts), counts["ok"], counts["no"], counts["what"], counts["calm"])
	}
}
