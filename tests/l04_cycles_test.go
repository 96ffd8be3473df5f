package tests

import (
	"fmt"
	"math"
	"math/rand"
	"slices"
	"strings"
	"testing"

	"loop.example/g01099/impl"
)

// cycles returns the cycles of a text like `1,0 t3; 0,-2 s5`.
func cycles(s string) []impl.Cycle {
	var list []impl.Cycle
	for _, part := range strings.Split(s, ";") {
		if words := strings.Fields(part); len(words) == 2 {
			n := numbers(words[0])
			list = append(list, impl.Cycle{Bend: n[0], Rise: n[1], Ring: ring(words[1])})
		}
	}
	return list
}

// outlookOf returns the least gap after the three steps.
func outlookOf(m impl.Machine, key int64) (int64, bool) {
	m, one := buildOf(m, impl.Ring{Kind: 1, Key: key})
	if !one {
		return 0, false
	}
	m, two := pushOf(m, 0, 0)
	if !two {
		return 0, false
	}
	m, three := buildOf(m, impl.Ring{})
	if !three {
		return 0, false
	}
	return slices.Min(gapsOf(m)), true
}

func TestPushRange(t *testing.T) {
	ranges := map[string]int{}
	for _, m := range sampleMachines() {
		var bends []int64
		for bend := int64(-20); bend <= 20; bend++ {
			if _, ok := pushOf(m, bend, 0); ok {
				bends = append(bends, bend)
			}
		}
		least, greatest, ok := impl.PushRange(m)
		call := "PushRange(" + machineText(m) + ")"
		if len(bends) == 0 {
			ranges["none"]++
			expect(t, call, results(least, greatest, ok), "[0 0 false]")
			continue
		}
		expect(t, call, results(least, greatest, ok), results(bends[0], bends[len(bends)-1], true))
		if int64(len(bends)) != greatest-least+1 {
			t.Errorf("%s: got %d and %d, but the bends are %v", call, least, greatest, bends)
		}
		if least > -12 {
			ranges["least"]++
		}
		if greatest < 12 {
			ranges["greatest"]++
		}
	}
	if ranges["none"] < 50 || ranges["least"] < 50 || ranges["greatest"] < 50 {
		t.Errorf("the samples have the ranges %v", ranges)
	}
}

func TestPushRangeAtItsLimits(t *testing.T) {
	for _, c := range []struct{ machine, want string }{
		{"0,0,0,0/0,0,0,0/600", "[-12 12 true]"},
		{"30,0,0,0/0,0,0,0/600", "[-5 12 true]"},
		{"-30,0,0,0/0,0,0,0/600", "[-12 5 true]"},
		{"40,0,0,0/0,0,0,0/600", "[0 12 true]"},
		{"-40,0,0,0/0,0,0,0/600", "[-12 0 true]"},
		{"0,0,0,0/0,0,0,0/1000", "[0 0 false]"},
		{"0,0,0,0/0,0,0,0/901", "[0 0 false]"},
		{"0,0,0,0/0,0,0,0/900", "[0 0 true]"},
		{"0,0,0,0/0,0,0,0/899", "[0 0 true]"},
		{"0,0,0,0/0,0,0,0/898", "[-1 1 true]"},
		{"0,0,5,0/0,0,0,0/900", "[-5 -5 true]"},
		{"0,0,5,0/0,0,0,0/890", "[-10 0 true]"},
		{"0,0,-5,0/0,0,0,0/890", "[0 10 true]"},
		{"0,0,20,0/0,0,0,0/860", "[-12 0 true]"},
		{"0,0,20,0/0,0,6,0/872", "[-12 0 true]"},
		{"0,0,20,0/0,0,6,0/900", "[0 0 false]"},
		{"0,0,18,0/0,0,6,0/900", "[-12 -12 true]"},
		{"0,0,-18,0/0,0,-6,0/900", "[12 12 true]"},
		// The rise is 0, which the pitch does not allow.
		{"0,0,0,-1/0,0,0,0/899", "[0 0 false]"},
		{"0,0,0,-41/0,81,0,-41/600", "[-12 12 true]"},
		{"0,0,0,-41/0,82,0,-41/600", "[0 0 false]"},
		{"0,0,0,0/0,0,0,0/2401", "[0 0 false]"},
		{"41,0,0,0/0,0,0,0/600", "[0 0 false]"},
	} {
		if m := machine(c.machine); c.want != "[0 0 false]" && !machineIsValid(m) {
			t.Errorf("%s is not valid", c.machine)
		}
		least, greatest, ok := impl.PushRange(machine(c.machine))
		expect(t, "PushRange("+c.machine+")", results(least, greatest, ok), c.want)
	}
}

func TestFittingKeysAndOutlooks(t *testing.T) {
	counts := map[string]int{}
	for _, m := range sampleMachines() {
		s := machineText(m)
		fitting := []int64{}
		best, greatest, equal := int64(-1), int64(-1), 0
		for key := int64(15); key >= 0; key-- {
			if _, ok := buildOf(m, impl.Ring{Kind: 1, Key: key}); ok {
				fitting = append(fitting, key)
			}
			want, isKey := outlookOf(m, key)
			outlook, ok := impl.OutlookOf(m, key)
			expect(t, fmt.Sprintf("OutlookOf(%s, %d)", s, key), results(outlook, ok), results(want, isKey))
			switch {
			case isKey && want > greatest:
				best, greatest, equal = key, want, 1
			case isKey && want == greatest:
				best = key
				equal++
			}
		}
		slices.Reverse(fitting)
		keys, ok := impl.FittingKeys(m)
		expect(t, "FittingKeys("+s+")", results(keys, ok), results(fitting, true))
		key, ok := impl.BestKey(m)
		expect(t, "BestKey("+s+")", results(key, ok), results(max(best, 0), best >= 0))
		switch {
		case best < 0:
			counts["none"]++
		case equal > 1:
			counts["equal"]++
		default:
			counts["one"]++
		}
		if within := len(fitting); within > 0 && within < 16 {
			counts["some"]++
		}
	}
	if counts["none"] < 50 || counts["equal"] < 20 || counts["one"] < 50 || counts["some"] < 10 {
		t.Errorf("the samples have the best keys %v", counts)
	}
}

func TestFittingKeysAtTheirLimits(t *testing.T) {
	all := results([]int64{0, 1, 2, 3, 4, 5, 6, 7, 8, 9, 10, 11, 12, 13, 14, 15}, true)
	for _, c := range []struct{ machine, want string }{
		{"0,0,0,0/0,0,0,0/2100", all},
		{"0,0,0,0/0,0,0,0/600", "[[] true]"},
		{"0,0,0,0/0,0,0,0/1520", all},
		{"0,0,0,0/0,0,0,0/1519", "[[1 2 3 5 6 7 9 10 11 13 14 15] true]"},
		{"0,0,0,0/0,0,0,0/1518", "[[1 2 3 5 6 7 9 10 11 13 14 15] true]"},
		{"0,0,0,0/0,0,0,0/1517", "[[2 6 10 14] true]"},
		{"0,0,0,0/0,0,0,0/1514", "[[2 6 10 14] true]"},
		{"0,0,0,0/0,0,0,0/1513", "[[] true]"},
		{"0,0,10,0/0,0,0,0/1520", "[[0 1 2 3 4 12 13 14 15] true]"},
		{"0,0,10,0/0,0,0,0/1500", "[[0] true]"},
		{"0,0,7,-7/0,0,0,0/1500", "[[14] true]"},
		{"0,0,0,0/0,0,41,0/2100", "[[] true]"},
		{"0,0,0,0/0,0,0,0/2401", "[[] false]"},
		{"0,41,0,0/0,0,0,0/2100", "[[] false]"},
		{"0,0,0,0/0,0,0,0/-1", "[[] false]"},
	} {
		keys, ok := impl.FittingKeys(machine(c.machine))
		expect(t, "FittingKeys("+c.machine+")", results(keys, ok), c.want)
	}
}

func TestOutlooksAtTheirLimits(t *testing.T) {
	for _, c := range []struct {
		machine string
		key     int64
		want    string
	}{
		{"0,0,0,0/0,0,0,0/2100", 0, "[30 true]"},
		{"0,0,0,0/0,0,0,0/2100", 1, "[31 true]"},
		{"0,0,0,0/0,0,0,0/2100", 2, "[33 true]"},
		{"0,0,0,0/0,0,0,0/2100", 15, "[31 true]"},
		{"20,0,0,0/0,0,0,0/2100", 0, "[30 true]"},
		{"-20,0,0,0/0,0,0,0/2100", 0, "[10 true]"},
		{"0,0,0,0/0,0,0,0/2100", 16, "[0 false]"},
		{"0,0,0,0/0,0,0,0/2100", -1, "[0 false]"},
		{"0,0,0,0/0,0,0,0/2100", math.MaxInt64, "[0 false]"},
		{"0,0,0,0/0,0,0,0/2100", math.MinInt64, "[0 false]"},
		// The first step just succeeds, and just fails.
		{"0,0,0,0/0,0,0,0/1520", 0, "[30 true]"},
		{"0,0,0,0/0,0,0,0/1519", 0, "[0 false]"},
		// The push just succeeds, and just fails.
		{"0,0,0,0/0,0,0,0/2380", 0, "[30 true]"},
		{"0,0,0,0/0,0,0,0/2381", 0, "[0 false]"},
		{"0,0,40,0/-80,0,0,0/2100", 0, "[10 true]"},
		{"0,0,41,0/-80,0,0,0/2100", 0, "[11 true]"},
		{"0,0,40,0/-40,0,0,0/2100", 0, "[30 true]"},
		{"0,0,0,41/0,-82,0,0/2100", 0, "[0 false]"},
		{"0,0,0,40/0,-80,0,0/2100", 0, "[0 true]"},
		// The straight ring just succeeds, and just fails.
		{"-30,0,0,0/0,0,0,0/2100", 0, "[0 true]"},
		{"-31,0,0,0/0,0,0,0/2100", 0, "[0 false]"},
		{"30,0,0,0/0,0,0,0/2100", 8, "[0 true]"},
		{"31,0,0,0/0,0,0,0/2100", 8, "[0 false]"},
		{"0,-30,0,0/0,0,0,0/2100", 4, "[0 true]"},
		{"0,-31,0,0/0,0,0,0/2100", 4, "[0 false]"},
		{"0,0,0,0/0,0,0,0/2401", 0, "[0 false]"},
		{"0,0,0,0/41,0,-10,0/2100", 0, "[0 false]"},
	} {
		outlook, ok := impl.OutlookOf(machine(c.machine), c.key)
		expect(t, fmt.Sprintf("OutlookOf(%s, %d)", c.machine, c.key), results(outlook, ok), c.want)
	}
}

func TestBestKeyAtItsLimits(t *testing.T) {
	for _, c := range []struct{ machine, want string }{
		// The keys 2, 6, 10 and 14 have the same outlook.
		{"0,0,0,0/0,0,0,0/2100", "[2 true]"},
		{"-20,0,0,0/0,0,0,0/2100", "[8 true]"},
		{"0,-20,0,0/0,0,0,0/2100", "[12 true]"},
		{"20,20,0,0/0,0,0,0/2100", "[2 true]"},
		{"-20,20,0,0/0,0,0,0/2100", "[6 true]"},
		{"20,-20,0,0/0,0,0,0/2100", "[14 true]"},
		{"20,0,0,0/0,0,0,0/2100", "[0 true]"},
		// Only one key fits, and its outlook is 0.
		{"-26,0,7,-7/0,0,0,0/1500", "[14 true]"},
		{"-20,0,10,0/0,0,0,0/1500", "[0 true]"},
		{"50,40,0,0/10,0,0,0/2100", "[2 true]"},
		{"0,0,0,0/0,0,0,0/1514", "[2 true]"},
		{"0,0,0,0/0,0,0,0/1513", "[0 false]"},
		{"0,0,0,0/0,0,0,0/600", "[0 false]"},
		{"0,0,0,0/0,0,0,0/2386", "[2 true]"},
		{"0,0,0,0/0,0,0,0/2387", "[0 false]"},
		{"0,0,0,0/0,0,0,0/2401", "[0 false]"},
		{"0,41,0,0/0,0,0,0/2100", "[0 false]"},
	} {
		m := machine(c.machine)
		best, greatest := int64(0), int64(-1)
		for key := range int64(16) {
			if outlook, ok := outlookOf(m, key); ok && outlook > greatest {
				best, greatest = key, outlook
			}
		}
		if machineIsValid(m) {
			expect(t, "the best key of "+c.machine, results(best, greatest >= 0), c.want)
		}
		key, ok := impl.BestKey(m)
		expect(t, "BestKey("+c.machine+")", results(key, ok), c.want)
	}
}

// randomCycles returns cycles of which a machine of the samples can often do some.
func randomCycles(random *rand.Rand, m impl.Machine, count int) []impl.Cycle {
	var list []impl.Cycle
	for len(list) < count {
		c := impl.Cycle{Bend: random.Int63n(27) - 13, Rise: random.Int63n(27) - 13, Ring: allRings()[random.Intn(32)]}
		for range 60 {
			// Another try, most often, where the cycle cannot be done.
			if len(cyclesOf(m, []impl.Cycle{c})) == 2 || random.Intn(80) == 0 {
				break
			}
			c.Bend, c.Rise, c.Ring = random.Int63n(25)-12, random.Int63n(25)-12, allRings()[random.Intn(32)]
		}
		list = append(list, c)
		behind := cyclesOf(m, []impl.Cycle{c})
		m = behind[len(behind)-1]
	}
	return list
}

func TestCyclesLeadWhereTheirTurnsLead(t *testing.T) {
	random := rand.New(rand.NewSource(44))
	counts := map[string]int{}
	for i, m := range sampleMachines() {
		list := randomCycles(random, m, i%21)
		call := fmt.Sprintf("(%s, %v)", machineText(m), list)
		behind := cyclesOf(m, list)
		whole := len(behind) - 1
		last, done, ok := impl.DoCycles(m, list)
		expect(t, "DoCycles"+call, results(found(last, ok), done), results(machineText(behind[whole]), whole))
		var tube []impl.Pose
		if whole == len(list) {
			for _, m := range behind {
				tube = append(tube, m.Tube)
			}
			counts["whole"]++
		} else {
			counts["failed"]++
		}
		if whole > 5 {
			counts["long"]++
		}
		got, ok := impl.TubeOf(m, list)
		expect(t, "TubeOf"+call, results(got, ok), results(tube, whole == len(list)))
		// The shield and the tube go on by themselves, as poses of chapters 2 and 3 do.
		var bends [][2]int64
		var rings []impl.Ring
		for _, c := range list[:whole] {
			bends = append(bends, [2]int64{c.Bend, c.Rise})
			rings = append(rings, c.Ring)
		}
		shields := posesOf(withBends(m.Shield, bends))
		tubes, _ := posesBehind(m.Tube, rings)
		end := impl.Machine{Shield: shields[whole], Tube: tubes[whole], Advance: m.Advance}
		expect(t, "the end of"+call, machineText(last), machineText(end))
		first, _ := impl.TubeOf(m, list[:whole])
		expect(t, "TubeOf the whole cycles of"+call, results(first), results(tubes))
	}
	if counts["whole"] < 100 || counts["failed"] < 100 || counts["long"] < 50 {
		t.Errorf("the samples of cycles are %v", counts)
	}
}

func TestCyclesThatFail(t *testing.T) {
	for _, c := range []struct {
		machine, cycles string
		last            string
		whole           int64
		tube            string
	}{
		{"0,0,0,0/0,0,0,0/600", "", "0,0,0,0/0,0,0,0/600", 0, "[[{0 0 0 0}] true]"},
		{"0,0,0,0/0,0,0,0/2400", "", "0,0,0,0/0,0,0,0/2400", 0, "[[{0 0 0 0}] true]"},
		{"0,0,0,0/0,0,0,0/600", "1,0 t0", "0,0,1,0/0,0,10,0/600", 1, "[[{0 0 0 0} {0 0 10 0}] true]"},
		{"0,0,0,0/0,0,0,0/600", "1,0 t0; 0,0 s0; 0,0 s0", "2,0,1,0/20,0,10,0/600", 3, "[[{0 0 0 0} {0 0 10 0} {10 0 10 0} {20 0 10 0}] true]"},
		{"0,0,0,0/0,0,0,0/600", "1,0 t0; 0,0 s0; 0,0 s0; 0,0 s0; 0,0 s0; 0,0 s0; 0,0 s0", "4,0,1,0/40,0,10,0/600", 5, "[[] false]"},
		// The push fails.
		{"0,0,0,0/0,0,0,0/901", "0,0 s0", "0,0,0,0/0,0,0,0/901", 0, "[[] false]"},
		{"0,0,0,0/0,0,0,0/600", "0,0 t1; 13,0 s0; 0,0 s0", "0,0,0,0/0,0,9,4/600", 1, "[[] false]"},
		{"0,0,0,0/0,0,0,0/600", "0,0 t1; 0,-13 s0; 0,0 s0", "0,0,0,0/0,0,9,4/600", 1, "[[] false]"},
		// The push succeeds, but the ring fails; the push is not part of the machine behind the last whole cycle.
		{"0,0,0,0/0,0,0,0/17", "1,0 t0", "0,0,0,0/0,0,0,0/17", 0, "[[] false]"},
		{"0,0,0,0/0,0,0,0/18", "1,0 t0", "0,0,1,0/0,0,10,0/18", 1, "[[{0 0 0 0} {0 0 10 0}] true]"},
		{"0,0,0,0/0,0,0,0/600", "0,0 t1; 1,1 s16; 0,0 s0", "0,0,0,0/0,0,9,4/600", 1, "[[] false]"},
		{"0,0,0,0/0,0,0,0/600", "0,0 t1; 1,1 t-1", "0,0,0,0/0,0,9,4/600", 1, "[[] false]"},
		{"0,0,0,0/0,0,0,0/600", "1,1 s16", "0,0,0,0/0,0,0,0/600", 0, "[[] false]"},
		// A ring could be built only before the push.
		{"0,0,0,0/0,0,0,0/2400", "0,0 s0", "0,0,0,0/0,0,0,0/2400", 0, "[[] false]"},
		// Cycles that could be done behind the one that fails are not done.
		{"0,0,0,0/0,0,0,0/600", "0,0 s0; 0,0 s16; 0,0 t0; 0,0 t8", "0,0,0,0/0,0,0,0/600", 1, "[[] false]"},
		// Joints may meet: the machine does not know the ring before.
		{"0,0,0,0/0,0,0,0/600", "0,0 s0; 0,0 s0; 0,0 t0", "0,0,0,0/0,0,10,0/600", 3, "[[{0 0 0 0} {0 0 0 0} {0 0 0 0} {0 0 10 0}] true]"},
	} {
		m, list := machine(c.machine), cycles(c.cycles)
		call := fmt.Sprintf("(%s, %s)", c.machine, c.cycles)
		last, whole, ok := impl.DoCycles(m, list)
		expect(t, "DoCycles"+call, results(found(last, ok), whole), results(c.last, c.whole))
		tube, ok := impl.TubeOf(m, list)
		expect(t, "TubeOf"+call, results(tube, ok), c.tube)
	}
}

func TestMaxCycles(t *testing.T) {
	m := machine("0,0,0,0/0,0,0,0/600")
	straight := cycles("0,0 s0")[0]
	for _, list := range [][]impl.Cycle{
		slices.Repeat([]impl.Cycle{straight}, 21),
		append(slices.Repeat([]impl.Cycle{straight}, 20), cycles("0,0 s16")...),
		append(cycles("13,0 s0"), slices.Repeat([]impl.Cycle{straight}, 20)...),
		slices.Repeat([]impl.Cycle{straight}, 100000),
	} {
		last, whole, one := impl.DoCycles(m, list)
		tube, two := impl.TubeOf(m, list)
		call := fmt.Sprintf("%d cycles", len(list))
		expect(t, call, results(found(last, one), whole, one, tube, two), "[ 0 false [] false]")
		last, whole, one = impl.DoCycles(m, list[:20])
		want := cyclesOf(m, list[:20])
		expect(t, "the first 20 of "+call, results(found(last, one), whole), results(machineText(want[len(want)-1]), len(want)-1))
	}
	list := slices.Repeat([]impl.Cycle{straight}, 20)
	tube, ok := impl.TubeOf(m, list)
	expect(t, "TubeOf 20 cycles", results(tube, ok), results(make([]impl.Pose, 21), true))
	list[19].Ring = ring("t0")
	last, whole, ok := impl.DoCycles(m, list)
	expect(t, "DoCycles 20 cycles", results(found(last, ok), whole), "[0,0,0,0/0,0,10,0/600 20]")
}

func TestMirrorMachine(t *testing.T) {
	for _, c := range []struct{ machine, want string }{
		{"10,0,5,1/3,0,2,1/600", "-10,0,-5,1/-3,0,-2,1/600"},
		{"1,2,3,4/5,6,7,8/90", "-1,2,-3,4/-5,6,-7,8/90"},
		{"-1,-2,-3,-4/-5,-6,-7,-8/90", "1,-2,3,-4/5,-6,7,-8/90"},
		{"0,0,0,0/0,0,0,0/0", "0,0,0,0/0,0,0,0/0"},
		{"100000,-100000,0,0/99960,-99960,0,0/5", "-100000,-100000,0,0/-99960,-99960,0,0/5"},
		{"0,0,0,0/0,0,0,0/2401", ""},
		{"41,0,0,0/0,0,0,0/600", ""},
	} {
		m, ok := impl.MirrorMachine(machine(c.machine))
		expect(t, "MirrorMachine("+c.machine+")", found(m, ok), c.want)
	}
	random := rand.New(rand.NewSource(45))
	for i, m := range sampleMachines() {
		s := machineText(m)
		mirror, ok := impl.MirrorMachine(m)
		again, twice := impl.MirrorMachine(mirror)
		expect(t, "the mirror of the mirror of "+s, results(ok, found(again, twice)), results(true, s))
		// What is done in the mirror leads to the mirror of what is done.
		list := randomCycles(random, m, i%5)
		var images []impl.Cycle
		for _, c := range list {
			images = append(images, impl.Cycle{Bend: -c.Bend, Rise: c.Rise, Ring: impl.Ring{Kind: c.Ring.Kind, Key: (24 - c.Ring.Key) % 16}})
		}
		last, whole, _ := impl.DoCycles(m, list)
		image, wholeImages, _ := impl.DoCycles(mirror, images)
		back, _ := impl.MirrorMachine(image)
		expect(t, "cycles in the mirror of "+s, results(machineText(back), wholeImages), results(machineText(last), whole))
	}
}

func TestMachineText(t *testing.T) {
	for _, m := range sampleMachines() {
		want := machineText(m)
		text, ok := impl.MachineText(m)
		expect(t, "MachineText", results(text, ok), results(want, true))
		back, ok := impl.ReadMachine(want)
		expect(t, "ReadMachine("+want+")", found(back, ok), want)
	}
	for s, isValid := range edgeMachines {
		want := ""
		if isValid {
			want = s
		}
		text, ok := impl.MachineText(machine(s))
		expect(t, "MachineText of "+s, results(text, ok), results(want, isValid))
		back, ok := impl.ReadMachine(s)
		expect(t, "ReadMachine("+s+")", results(found(back, ok), ok), results(want, isValid))
	}
}

// nearlyMachines are texts that are not quite those of a machine.
func nearlyMachines() []string {
	list := []string{
		"0,0,0,0/0,0,0,0", "0,0,0,0/0,0,0,0/", "/0,0,0,0/0,0,0,0/5", "0,0,0,0//0,0,0,0/5", "0,0,0,0/0,0,0,0//5",
		"0,0,0,0/0,0,0,0/5/", "0,0,0,0/0,0,0,0/5/5", "0,0,0,0/0,0,0,0/0,0,0,0/5", "0,0,0,0/5", "0,0,0,0", "5", "/", "//", "///",
		"0,0,0/0,0,0,0/5", "0,0,0,0/0,0,0/5", "0,0,0,0,0/0,0,0,0/5", "0,0,0,0/0,0,0,0,0/5", "0,0,0,0/0,0,0,0/5,0", "0,0,0,0/0,0,0,0,5", "0,0,0,0,0,0,0,0/5",
		"0,0,0,/0,0,0,0/5", ",0,0,0/0,0,0,0/5", "0,,0,0/0,0,0,0/5", "0,0,0,0,/0,0,0,0/5", "0,0,0,0/,0,0,0,0/5",
		" 0,0,0,0/0,0,0,0/5", "0,0,0,0/0,0,0,0/5 ", "0, 0,0,0/0,0,0,0/5", "0,0,0,0 /0,0,0,0/5", "0,0,0,0/0,0,0,0/ 5", "0,0,0,0/0,0,0,0/5\n", "0,0,0,0/0,0,0,0/5\x00",
		"00,0,0,0/0,0,0,0/5", "0,0,0,0/0,0,0,0/05", "-0,0,0,0/0,0,0,0/5", "+0,0,0,0/0,0,0,0/5", "0,0,0,0/0,0,0,0/+5", "0,0,0,0/0,0,0,0/-0", "0,0,0,0/-0,0,0,0/5", "0,0,0,0/0,0,00,0/5",
		"0;0;0;0/0,0,0,0/5", "0,0,0,0;0,0,0,0/5", "0,0,0,0|0,0,0,0|5", "0,0,0,0\\0,0,0,0\\5", "0:0:0:0/0:0:0:0/5", "a,0,0,0/0,0,0,0/5", "0,0,0,0/0,0,0,0/a", "0,0,0,0/0,0,0,0/5a", "0,0,0,0/0,0,0,0/5.0", "0,0,0,0/0,0,0,0/5e2", "0,0,0,0/0,0,0,0/0x5", "0,0,0,0/0,0,0,0/1_0",
		"0,0,0,0/0,0,0,0/٣", "\xff,0,0,0/0,0,0,0/5", "0,0,0,0/0,0,0,0/\xff", "(0,0,0,0/0,0,0,0/5)", "0,0,0,0/0,0,0,0/-", "-,0,0,0/0,0,0,0/5",
		"0,0,0,0/0,0,0,0/18446744073709551616", "0,0,0,0/0,0,0,0/18446744073709551621", "18446744073709551616,0,0,0/0,0,0,0/5", "0,0,0,0/0,0,0,-18446744073709551616/5",
		strings.Repeat("0,0,0,0/", 100000) + "5", "0,0,0,0/0,0,0,0/" + strings.Repeat("5", 100000), strings.Repeat("/", 100000), strings.Repeat("0,", 100000) + "/0,0,0,0/5", "0,0,0,0/0,0,0,0/" + strings.Repeat("0", 100000),
	}
	for s, isValid := range edgeMachines {
		if !isValid {
			list = append(list, s)
		}
	}
	return list
}

func TestReadMachineRefusesOtherTexts(t *testing.T) {
	for _, s := range nearlyMachines() {
		m, ok := impl.ReadMachine(s)
		expect(t, fmt.Sprintf("ReadMachine(%.60q)", s), results(found(m, ok), ok), "[ false]")
	}
}

func TestFunctionsRefuseMachinesThatAreNotValid(t *testing.T) {
	for s, isValid := range edgeMachines {
		if isValid {
			continue
		}
		m := machine(s)
		gaps, one := impl.GapsOf(m)
		strokes, two := impl.StrokesOf(m)
		least, at, three := impl.LeastGap(m)
		low, high, four := impl.PushRange(m)
		keys, five := impl.FittingKeys(m)
		outlook, six := impl.OutlookOf(m, 2)
		best, seven := impl.BestKey(m)
		tube, eight := impl.TubeOf(m, nil)
		text, nine := impl.MachineText(m)
		got := results(impl.ValidMachine(m), gaps, one, strokes, two, least, at, three, low, high, four, keys, five, outlook, six, best, seven, tube, eight, text, nine)
		expect(t, "the machine "+s, got, "[false [] false [] false 0 0 false 0 0 false [] false 0 false 0 false [] false  false]")
		pushed, one := impl.PushMachine(m, 0, 0)
		built, two := impl.BuildRing(m, impl.Ring{})
		last, whole, three := impl.DoCycles(m, nil)
		mirror, four := impl.MirrorMachine(m)
		none := impl.Machine{}
		expect(t, "the machine "+s, results(pushed, one, built, two, last, whole, three, mirror, four), results(none, false, none, false, none, 0, false, none, false))
	}
}
