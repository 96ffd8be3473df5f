package tests

import (
	"fmt"
	"math/rand"
	"slices"
	"strings"
	"testing"

	"loop.example/g01099/impl"
)

// workDone returns a new drive and deeds that can all be done in it, one after the other.
func workDone(random *rand.Rand, most int) (impl.Drive, []impl.Deed) {
	first := randomDrive(random)
	d, list := first, []impl.Deed(nil)
	for tries := 0; tries < 3*most && len(list) < most; tries++ {
		x := randomDeed(random, d)
		if next, ok := doneOf(d, x); ok {
			d, list = next, append(list, x)
		}
	}
	return first, list
}

// deedsOf returns the deeds of a kind.
func deedsOf(kind int64, list []impl.Deed) []impl.Deed {
	var some []impl.Deed
	for _, x := range list {
		if x.Kind == kind {
			some = append(some, x)
		}
	}
	return some
}

// tubeOf returns the rings that deeds have built.
func tubeOf(list []impl.Deed) []impl.Ring {
	var rings []impl.Ring
	for _, x := range deedsOf(2, list) {
		rings = append(rings, x.Ring)
	}
	return rings
}

// balanceOf returns what was weighed less what was expected of each push; the shield of a new drive goes where the pushes turn it.
func balanceOf(first impl.Drive, list []impl.Deed) []int64 {
	var bends [][2]int64
	for _, x := range deedsOf(1, list) {
		bends = append(bends, [2]int64{x.Bend, x.Rise})
	}
	shield := posesOf(withBends(first.Machine.Shield, bends))
	var balance []int64
	for i, x := range deedsOf(1, list) {
		balance = append(balance, x.Weight-weightAt(first.Ground, int64(i), shield[i].Height))
	}
	return balance
}

// groutsOf returns the grouts of deeds, each of them for the last ring that was built before it.
func groutsOf(list []impl.Deed) []impl.Grout {
	var some []impl.Grout
	for i, x := range list {
		if x.Kind == 3 {
			ring := int64(len(tubeOf(list[:i])) - 1)
			some = append(some, impl.Grout{Ring: ring, Void: x.Void, Injected: x.Injected, Shrink: x.Shrink})
		}
	}
	return some
}

func TestTheDriveIsThatOfItsJournal(t *testing.T) {
	random := rand.New(rand.NewSource(119))
	lengths := map[int]bool{}
	for range 400 {
		first, list := workDone(random, random.Intn(61))
		lengths[len(list)] = true
		d, done, one := impl.DoDeeds(first, list)
		journal, two := impl.JournalText(list)
		replayed, three := impl.ReplayJournal(first, journal)
		found, length, four := impl.RecoverJournal(journal)
		again, five := impl.ReadJournal(journal)
		name := "the drive after " + deedsText(list)
		expect(t, name, results(done, one, two, three, length, four, five), results(len(list), true, true, true, len(journal), true, true))
		expect(t, "what is read of "+name, results(found, again), results(list, list))
		expect(t, name, results(replayed, impl.SameDrive(d, replayed), impl.ValidDrive(d)), results(d, true, true))
		// The journal of a beginning leads to the drive at that time, from which the other deeds lead to the same drive.
		at := random.Intn(len(list) + 1)
		half, six := impl.ReplayJournal(first, journalOf(list[:at]))
		rest, seven := impl.ReplayJournal(half, journalOf(list[at:]))
		expect(t, name+" in two parts", results(rest, six, seven, impl.SameDrive(d, rest)), results(d, true, true, true))
		if at < len(list) && impl.SameDrive(d, half) {
			t.Errorf("%s is the same as that after %d deeds", name, at)
		}
	}
	if len(lengths) < 30 {
		t.Errorf("there are journals of %d lengths only", len(lengths))
	}
}

func TestTheTubeIsThatOfItsRings(t *testing.T) {
	random := rand.New(rand.NewSource(120))
	turned := 0
	for range 300 {
		first, list := workDone(random, 60)
		d, _, _ := impl.DoDeeds(first, list)
		rings := tubeOf(list)
		poses, isTube := posesBehind(first.Axis.Start, rings)
		expect(t, "the rings of "+deedsText(list), results(d.Built, isTube), results(rings, true))
		got, ok := impl.TubePoses(first.Axis.Start, d.Built)
		expect(t, "the poses of "+tubeText(rings), results(got, ok, d.Machine.Tube), results(poses, true, poses[len(rings)]))
		side, height, ok := impl.OffAxis(d)
		aim := posesOf(first.Axis)[len(rings)]
		expect(t, "OffAxis behind "+tubeText(rings), results(side, height, ok), results(poses[len(rings)].Side-aim.Side, poses[len(rings)].Height-aim.Height, true))
		// The tube has the same pose behind each ring, at that time.
		built := 0
		for i, x := range list {
			if x.Kind == 2 {
				built++
				then, _, _ := impl.DoDeeds(first, list[:i+1])
				expect(t, fmt.Sprintf("the tube behind %d rings", built), results(then.Machine.Tube), results(poses[built]))
			}
		}
		if d.Machine.Tube.Yaw != first.Axis.Start.Yaw {
			turned++
		}
	}
	if turned < 100 {
		t.Errorf("only %d tubes are turned", turned)
	}
}

func TestTheBalanceIsThatOfTheWeights(t *testing.T) {
	random := rand.New(rand.NewSource(121))
	pushes := 0
	for range 300 {
		first, list := workDone(random, 60)
		d, _, _ := impl.DoDeeds(first, list)
		want := balanceOf(first, list)
		pushes += len(want)
		expect(t, "the balance of "+deedsText(list), results(d.Balance), results(want))
		var weighed, expected []int64
		for i, x := range list {
			if x.Kind == 1 {
				then, _, _ := impl.DoDeeds(first, list[:i])
				n, _ := impl.ExpectedNow(then)
				weighed, expected = append(weighed, x.Weight), append(expected, n)
			}
		}
		balance, ok := impl.BalanceOf(weighed, expected)
		expect(t, "BalanceOf what was expected at each time", results(balance, ok), results(want, true))
		begin, raised, ok := impl.AlarmNow(d)
		expect(t, "AlarmNow", results(begin, raised, ok), firstAlarm(want, first.Allowance, first.Limit))
	}
	if pushes < 1000 {
		t.Errorf("there are only %d pushes", pushes)
	}
}

func TestTheSurfaceIsThatOfTheLosses(t *testing.T) {
	random := rand.New(rand.NewSource(122))
	lost := 0
	for range 300 {
		first, list := workDone(random, 60)
		d, _, _ := impl.DoDeeds(first, list)
		want := groutsOf(list)
		expect(t, "the grouts of "+deedsText(list), results(d.Grouts), results(want))
		for width := range int64(6) {
			settled, ok := impl.SettledNow(d, width)
			losses, isAbove := lossesBehind(impl.Drive{Grouts: want}, width)
			if ok != isAbove {
				t.Errorf("SettledNow with the width %d of %v: got %v", width, want, ok)
			}
			if !ok {
				continue
			}
			expect(t, fmt.Sprintf("SettledNow with the width %d of %v", width, want), results(settled), results(settlementsOf(losses)))
			volume := int64(0)
			for _, g := range want {
				volume += lossOf(g)
			}
			if sum, ok := impl.VolumeOf(settled); sum != volume || !ok {
				t.Errorf("%d litres have settled of %v", sum, want)
			}
			if volume > 0 {
				lost++
			}
		}
	}
	if lost < 300 {
		t.Errorf("only %d surfaces have settled", lost)
	}
}

// TestOrdersOfDeeds puts grout behind the next push, which leads to the same drive by another journal.
func TestOrdersOfDeeds(t *testing.T) {
	random := rand.New(rand.NewSource(123))
	changed := 0
	for range 300 {
		first, list := workDone(random, 60)
		other := slices.Clone(list)
		for i := 1; i < len(other); i++ {
			if other[i-1].Kind == 3 && other[i].Kind == 1 && random.Intn(2) == 0 {
				other[i-1], other[i] = other[i], other[i-1]
				changed++
			}
		}
		d, one := impl.ReplayJournal(first, journalOf(list))
		e, two := impl.ReplayJournal(first, journalOf(other))
		expect(t, deedsText(other), results(e, impl.SameDrive(d, e), one, two), results(d, true, true, true))
		expect(t, "the balance of "+deedsText(other), results(e.Balance), results(balanceOf(first, other)))
		expect(t, "the grouts of "+deedsText(other), results(e.Grouts), results(groutsOf(other)))
	}
	if changed < 100 {
		t.Errorf("only %d orders are changed", changed)
	}
}

// TestScriptsAndJournalsDoTheSame executes the deeds of a journal as a script.
func TestScriptsAndJournalsDoTheSame(t *testing.T) {
	random := rand.New(rand.NewSource(124))
	for range 200 {
		first, list := workDone(random, 40)
		script := ""
		for _, x := range list {
			script += deedText(x) + "\n"
		}
		d, _ := impl.ReplayJournal(first, journalOf(list))
		output, ok := impl.RunScript(first, script+allQuestions)
		expect(t, "RunScript of "+deedsText(list), results(output, ok), results(strings.Repeat("ok\n", len(list))+outputOf(d, allQuestions), true))
	}
}

// TestAWholeDrive drives along all rings of an axis, and asks on the way.
func TestAWholeDrive(t *testing.T) {
	first, _ := impl.NewDrive(axis("0,0,0,0;20:1,0;20:0,1;20:-1,-1"), ground(twoClasses), 300, 2000)
	d, n := first, 0
	var list []impl.Deed
	for built := range 60 {
		bend, rise, _ := impl.CurveAt(d.Axis, int64(built))
		expected, _ := impl.ExpectedNow(d)
		push := impl.Deed{Kind: 1, Bend: bend, Rise: rise, Weight: expected + int64(built%7)}
		next, one := impl.DoDeed(d, push)
		rings, two := impl.NextRings(next, min(3, int64(60-built)))
		build := impl.Deed{Kind: 2, Ring: rings[0]}
		buildable, three := impl.BuildableRings(next)
		last, four := impl.DoDeed(next, build)
		expect(t, fmt.Sprintf("the ring %d", built), results(one, two, three, four, slices.Contains(buildable, rings[0]), impl.ValidDrive(last)), "[true true true true true true]")
		d, list = last, append(list, push, build)
		if built%5 == 0 {
			grout := impl.Deed{Kind: 3, Void: 100, Injected: 90, Shrink: int64(built)}
			d, _ = impl.DoDeed(d, grout)
			list = append(list, grout)
		}
		side, height, _ := impl.OffAxis(d)
		if max(side, -side, height, -height) > 40 {
			t.Errorf("behind %d rings, the tube is %d and %d off", built+1, side, height)
		}
	}
	for ; n < len(list); n += 60 {
		next, done, ok := impl.DoDeeds(first, list[n:min(n+60, len(list))])
		expect(t, "the deeds of a whole drive", results(done, ok), results(min(60, len(list)-n), true))
		first = next
	}
	expect(t, "a whole drive", results(len(d.Built), len(d.Balance), len(d.Grouts), len(list), impl.SameDrive(d, first)), "[60 60 12 132 true]")
}
