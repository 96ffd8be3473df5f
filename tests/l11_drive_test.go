package tests

import (
	"fmt"
	"math/rand"
	"slices"
	"strings"
	"testing"

	"loop.example/g01099/impl"
)

// deed returns the deed with a text, which need not be valid; it does not use the program.
func deed(s string) impl.Deed {
	word, rest, _ := strings.Cut(s, " ")
	if word == "build" {
		return impl.Deed{Kind: 2, Ring: ring(rest)}
	}
	n := numbers(strings.ReplaceAll(rest, " ", ","))
	if word == "push" {
		return impl.Deed{Kind: 1, Bend: n[0], Rise: n[1], Weight: n[2]}
	}
	return impl.Deed{Kind: 3, Void: n[0], Injected: n[1], Shrink: n[2]}
}

// deeds returns the deeds with some texts, which are separated by semicolons.
func deeds(s string) []impl.Deed {
	var list []impl.Deed
	for _, word := range strings.Split(s, ";") {
		if word != "" {
			list = append(list, deed(strings.TrimSpace(word)))
		}
	}
	return list
}

// deedText writes the text of a valid deed as the document says.
func deedText(x impl.Deed) string {
	switch x.Kind {
	case 1:
		return fmt.Sprintf("push %d %d %d", x.Bend, x.Rise, x.Weight)
	case 2:
		return "build " + tubeText([]impl.Ring{x.Ring})
	}
	return fmt.Sprintf("grout %d %d %d", x.Void, x.Injected, x.Shrink)
}

func deedsText(list []impl.Deed) string {
	var words []string
	for _, x := range list {
		words = append(words, deedText(x))
	}
	return strings.Join(words, "; ")
}

func deedIsValid(x impl.Deed) bool {
	switch x.Kind {
	case 1:
		return areFrom(-12, 12, x.Bend, x.Rise) && areFrom(0, 1000000, x.Weight) && x == impl.Deed{Kind: 1, Bend: x.Bend, Rise: x.Rise, Weight: x.Weight}
	case 2:
		return isTube([]impl.Ring{x.Ring}) && x == impl.Deed{Kind: 2, Ring: x.Ring}
	case 3:
		return areFrom(0, 100000, x.Void, x.Injected) && areFrom(0, 100, x.Shrink) && x == impl.Deed{Kind: 3, Void: x.Void, Injected: x.Injected, Shrink: x.Shrink}
	}
	return false
}

// drive returns the drive with an axis, a ground, an allowance and a limit, in which nothing has been done, and which need not be valid.
func drive(a, g string, allowance, limit int64) impl.Drive {
	d := impl.Drive{Axis: axis(a), Ground: ground(g), Allowance: allowance, Limit: limit}
	start := d.Axis.Start
	d.Machine.Tube, d.Machine.Shield = start, start
	d.Machine.Shield.Side += 2 * start.Yaw
	d.Machine.Shield.Height += 2 * start.Pitch
	d.Machine.Advance = 300
	return d
}

// driveIsValid judges drives whose numbers are not so great that sums overflow.
func driveIsValid(d impl.Drive) bool {
	if !axisIsValid(d.Axis) || !groundIsValid(d.Ground) || !machineIsValid(d.Machine) || !areFrom(0, 1000000, d.Allowance, d.Limit) {
		return false
	}
	if !isTube(d.Built) {
		return false
	}
	poses, ok := posesBehind(d.Axis.Start, d.Built)
	if !ok || poses[len(d.Built)] != d.Machine.Tube {
		return false
	}
	more := len(d.Balance) - len(d.Built)
	if more < 0 || more > 1 || len(d.Balance) >= len(posesOf(d.Axis)) {
		return false
	}
	if len(d.Balance) > 0 && !areFrom(-1000000, 1000000, d.Balance...) {
		return false
	}
	for _, g := range d.Grouts {
		if g.Ring >= int64(len(d.Built)) {
			return false
		}
	}
	return groutsAreValid(d.Grouts)
}

// weightAt returns what is expected of a ring at a height.
func weightAt(g impl.Ground, ring, height int64) int64 {
	return weightIn(g.Densities, faceIn(topsOf(g, ring), height))
}

// doneOf does a valid deed in a valid drive as the document says.
func doneOf(d impl.Drive, x impl.Deed) (impl.Drive, bool) {
	pushes, rings := len(d.Balance), len(d.Built)
	next, ok := d, false
	switch {
	case x.Kind == 1 && pushes == rings && pushes+1 < len(posesOf(d.Axis)):
		next.Machine, ok = pushOf(d.Machine, x.Bend, x.Rise)
		expected := weightAt(d.Ground, int64(pushes), d.Machine.Shield.Height)
		next.Balance = slices.Concat(d.Balance, []int64{x.Weight - expected})
	case x.Kind == 2 && pushes > rings:
		next.Machine, ok = buildOf(d.Machine, x.Ring)
		next.Built = slices.Concat(d.Built, []impl.Ring{x.Ring})
		ok = ok && isTube(next.Built)
	case x.Kind == 3:
		last := int64(rings - 1)
		ok = rings > 0 && len(d.Grouts) < 12 && !slices.ContainsFunc(d.Grouts, func(g impl.Grout) bool { return g.Ring == last })
		next.Grouts = slices.Concat(d.Grouts, []impl.Grout{{Ring: last, Void: x.Void, Injected: x.Injected, Shrink: x.Shrink}})
	}
	if !ok {
		return impl.Drive{}, false
	}
	return next, true
}

// doneAll does deeds until one cannot be done, and returns how many have been done.
func doneAll(d impl.Drive, list []impl.Deed) (impl.Drive, int) {
	for i, x := range list {
		next, ok := doneOf(d, x)
		if !ok {
			return d, i
		}
		d = next
	}
	return d, len(list)
}

const (
	// A ground of one class, of which 90000 kg are expected of each ring that is not near its top.
	oneClass = "1800|0:5000"
	// Two classes, whose border falls by 100 for each ring.
	twoClasses = "1800,2100|0:5000,1000|60:5000,-5000"
)

// straight returns a drive along a straight axis after some deeds, all of which must have been done.
func straight(rings int, s string) impl.Drive {
	return after(drive(fmt.Sprintf("0,0,0,0;%d:0,0", rings), oneClass, 500, 1000), s)
}

func after(d impl.Drive, s string) impl.Drive {
	next, done := doneAll(d, deeds(s))
	if list := deeds(s); done < len(list) {
		panic("cannot be done: " + deedText(list[done]))
	}
	return next
}

// straightRings are the deeds that build some rings straight on, each with more muck than the one before.
func straightRings(rings int) string {
	var words []string
	for i := range rings {
		words = append(words, fmt.Sprintf("push 0 0 %d", 90000+i), fmt.Sprintf("build s%d", i%2*2))
	}
	return strings.Join(words, ";")
}

// randomDrive returns a new drive that is valid, with room around its axis.
func randomDrive(random *rand.Rand) impl.Drive {
	pick := func(list ...int64) int64 { return list[random.Intn(len(list))] }
	for {
		a := randomAxis(random, pick(1, 3, 9), pick(0, 0, 1, 4))
		a.Start.Side, a.Start.Height = a.Start.Side/4, pick(a.Start.Height/4, a.Start.Height/100)
		d := drive(axisText(a), groundText(randomGround(random)), pick(0, 0, 500, 20000, 1000000), pick(0, 0, 1000, 50000, 1000000))
		if driveIsValid(d) {
			return d
		}
	}
}

// randomDeed returns a valid deed that can often be done next.
func randomDeed(random *rand.Rand, d impl.Drive) impl.Deed {
	pick := func(list ...int64) int64 { return list[random.Intn(len(list))] }
	around := func(most int64) int64 { return random.Int63n(2*most+1) - most }
	kind := pick(1, 2, 3)
	if random.Intn(5) > 0 && len(d.Balance) == len(d.Built) {
		kind = pick(1, 1, 3)
	} else if random.Intn(5) > 0 {
		kind = 2
	}
	switch kind {
	case 1:
		turn := pick(0, 2, 12)
		expected := weightAt(d.Ground, int64(len(d.Balance)), d.Machine.Shield.Height)
		return impl.Deed{Kind: 1, Bend: around(turn), Rise: around(turn), Weight: pick(expected, max(expected+around(3000), 0), random.Int63n(1000001))}
	case 2:
		choice := allRings()
		var fitting []impl.Ring
		for _, r := range choice {
			if _, ok := doneOf(d, impl.Deed{Kind: 2, Ring: r}); ok {
				fitting = append(fitting, r)
			}
		}
		if len(fitting) > 0 && random.Intn(9) > 0 {
			choice = fitting
		}
		return impl.Deed{Kind: 2, Ring: choice[random.Intn(len(choice))]}
	}
	most := pick(3, 300, 100000)
	return impl.Deed{Kind: 3, Void: random.Int63n(most + 1), Injected: random.Int63n(most + 1), Shrink: random.Int63n(101)}
}

// sampleDrives are valid drives after many deeds, most of them with some rings.
func sampleDrives() []impl.Drive {
	list := []impl.Drive{
		straight(1, ""), straight(1, "push 0 0 90000"), straight(1, straightRings(1)),
		straight(60, straightRings(60)), straight(60, straightRings(59)+";push 0 0 0"), straight(60, straightRings(59)),
		after(drive("0,0,0,0;60:0,0", twoClasses, 0, 0), straightRings(30)+";grout 5 0 0"),
		after(drive("0,0,0,30;9:0,0", twoClasses, 1000000, 1000000), "push 0 1 0;build t4;grout 100000 0 0;push 0 0 1000000"),
	}
	random := rand.New(rand.NewSource(110))
	for len(list) < 300 {
		d := randomDrive(random)
		for range random.Intn(60) {
			if next, ok := doneOf(d, randomDeed(random, d)); ok {
				d = next
			}
		}
		list = append(list, d)
	}
	return list
}

func TestLimitsOfDrives(t *testing.T) {
	got := results(impl.FirstAdvance, impl.MaxDeeds, impl.MaxJournal, impl.MaxScript, impl.MaxScriptLines, impl.DeedPush, impl.DeedBuild, impl.DeedGrout)
	expect(t, "the constants", got, "[300 60 4000 3000 50 1 2 3]")
}

func TestSampleDrivesHaveManyShapes(t *testing.T) {
	rings, grouted, waiting, whole := map[int]bool{}, map[int]bool{}, 0, 0
	for _, d := range sampleDrives() {
		if !driveIsValid(d) {
			t.Errorf("a sample is not valid: %v", d)
		}
		rings[len(d.Built)], grouted[len(d.Grouts)] = true, true
		if len(d.Balance) > len(d.Built) {
			waiting++
		}
		if len(d.Built)+1 == len(posesOf(d.Axis)) {
			whole++
		}
	}
	if len(rings) < 15 || len(grouted) < 8 || waiting < 50 || whole < 50 {
		t.Errorf("%d numbers of rings, %d of grouts, %d drives that wait for a ring, %d that are whole", len(rings), len(grouted), waiting, whole)
	}
}
