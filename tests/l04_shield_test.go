package tests

import (
	"fmt"
	"math"
	"math/rand"
	"slices"
	"strings"
	"testing"

	"loop.example/g01099/impl"
)

// machine returns the machine with a text, which need not be valid; it does not use the program.
func machine(s string) impl.Machine {
	parts := strings.Split(s, "/")
	return impl.Machine{Shield: pose(parts[0]), Tube: pose(parts[1]), Advance: numbers(parts[2])[0]}
}

// machineText writes the text of any machine as the document says.
func machineText(m impl.Machine) string {
	s, t := m.Shield, m.Tube
	return fmt.Sprintf("%d,%d,%d,%d/%d,%d,%d,%d/%d", s.Side, s.Height, s.Yaw, s.Pitch, t.Side, t.Height, t.Yaw, t.Pitch, m.Advance)
}

// found shows the result of a step: the text of the machine, or no text if the step fails.
func found(m impl.Machine, ok bool) string {
	if ok {
		return machineText(m)
	}
	if m != (impl.Machine{}) {
		return "fails and returns " + machineText(m)
	}
	return ""
}

// gapsOf are the gaps on the right, at the top, on the left and at the bottom.
func gapsOf(m impl.Machine) []int64 {
	side := m.Tube.Side - m.Shield.Side + 2*m.Shield.Yaw
	height := m.Tube.Height - m.Shield.Height + 2*m.Shield.Pitch
	return []int64{40 - side, 40 - height, 40 + side, 40 + height}
}

// strokesOf are the strokes in the order of the gaps.
func strokesOf(m impl.Machine) []int64 {
	swing := 4 * (m.Shield.Yaw - m.Tube.Yaw)
	tilt := 4 * (m.Shield.Pitch - m.Tube.Pitch)
	return []int64{m.Advance - swing/2, m.Advance - tilt/2, m.Advance + swing/2, m.Advance + tilt/2}
}

// machineIsValid judges machines whose numbers are not so great that sums overflow.
func machineIsValid(m impl.Machine) bool {
	bad := func(n int64) bool { return n < 0 || n > 2400 }
	return poseIsValid(m.Shield) && poseIsValid(m.Tube) && !bad(m.Advance) &&
		!slices.ContainsFunc(strokesOf(m), bad) && !slices.ContainsFunc(gapsOf(m), func(n int64) bool { return n < 0 })
}

// nextOf returns the pose one ring further, whether or not it is valid.
func nextOf(p impl.Pose, bend, rise int64) impl.Pose {
	return posesOf(withBends(p, [][2]int64{{bend, rise}}))[1]
}

// pushOf pushes a valid machine as the document says.
func pushOf(m impl.Machine, bend, rise int64) (impl.Machine, bool) {
	next := m
	next.Shield = nextOf(m.Shield, bend, rise)
	next.Advance += 1500
	if max(bend, -bend, rise, -rise) > 12 || !machineIsValid(next) {
		return impl.Machine{}, false
	}
	return next, true
}

// buildOf builds a ring in a valid machine as the document says.
func buildOf(m impl.Machine, r impl.Ring) (impl.Machine, bool) {
	if !isTube([]impl.Ring{r}) {
		return impl.Machine{}, false
	}
	turn := turnOf(r)
	next := m
	next.Tube = nextOf(m.Tube, turn[0], turn[1])
	next.Advance -= 1500
	if !machineIsValid(next) {
		return impl.Machine{}, false
	}
	return next, true
}

// cyclesOf returns the machines behind all whole cycles, the given one first.
func cyclesOf(m impl.Machine, cycles []impl.Cycle) []impl.Machine {
	list := []impl.Machine{m}
	for _, c := range cycles {
		next, ok := pushOf(m, c.Bend, c.Rise)
		if ok {
			next, ok = buildOf(next, c.Ring)
		}
		if !ok {
			break
		}
		m = next
		list = append(list, m)
	}
	return list
}

// edgeMachines tells whether machines are valid; most of them are at a limit, or just behind it.
var edgeMachines = map[string]bool{
	"0,0,0,0/0,0,0,0/0":                                      true,
	"0,0,0,0/0,0,0,0/-1":                                     false,
	"0,0,0,0/0,0,0,0/2400":                                   true,
	"0,0,0,0/0,0,0,0/2401":                                   false,
	"10,0,5,1/3,0,2,1/600":                                   true,
	"40,0,0,0/0,0,0,0/5":                                     true,
	"41,0,0,0/0,0,0,0/5":                                     false,
	"-40,0,0,0/0,0,0,0/5":                                    true,
	"-41,0,0,0/0,0,0,0/5":                                    false,
	"0,40,0,0/0,0,0,0/5":                                     true,
	"0,41,0,0/0,0,0,0/5":                                     false,
	"0,-40,0,0/0,0,0,0/5":                                    true,
	"0,-41,0,0/0,0,0,0/5":                                    false,
	"40,-40,0,0/0,0,0,0/2400":                                true,
	"0,0,20,0/0,0,0,0/40":                                    true,
	"0,0,20,0/0,0,0,0/39":                                    false,
	"0,0,20,0/0,0,0,0/2360":                                  true,
	"0,0,20,0/0,0,0,0/2361":                                  false,
	"0,0,-20,0/0,0,0,0/40":                                   true,
	"0,0,-20,0/0,0,0,0/39":                                   false,
	"0,0,-20,0/0,0,0,0/2360":                                 true,
	"0,0,-20,0/0,0,0,0/2361":                                 false,
	"0,0,0,20/0,0,0,0/40":                                    true,
	"0,0,0,20/0,0,0,0/39":                                    false,
	"0,0,0,20/0,0,0,0/2360":                                  true,
	"0,0,0,20/0,0,0,0/2361":                                  false,
	"0,0,0,-20/0,0,0,0/40":                                   true,
	"0,0,0,-20/0,0,0,0/39":                                   false,
	"0,0,0,-20/0,0,0,0/2360":                                 true,
	"0,0,0,-20/0,0,0,0/2361":                                 false,
	"0,0,21,0/0,0,0,0/600":                                   false,
	"2,0,21,0/0,0,0,0/600":                                   true,
	"1,0,21,0/0,0,0,0/600":                                   false,
	"0,0,0,-21/0,0,0,0/600":                                  false,
	"0,-2,0,-21/0,0,0,0/600":                                 true,
	"0,-1,0,-21/0,0,0,0/600":                                 false,
	"0,0,0,0/40,-40,400,-400/800":                            true,
	"0,0,0,0/40,-40,400,-400/799":                            false,
	"0,0,0,0/40,-40,400,-400/1600":                           true,
	"0,0,0,0/40,-40,400,-400/1601":                           false,
	"0,0,0,0/41,0,0,0/5":                                     false,
	"0,0,0,0/0,-41,0,0/5":                                    false,
	"0,0,1,0/0,0,0,0/1":                                      false,
	"0,0,1,0/0,0,0,0/2":                                      true,
	"100000,-100000,0,0/99960,-99960,0,0/5":                  true,
	"100001,0,0,0/100000,0,0,0/5":                            false,
	"0,-100001,0,0/0,-100000,0,0/5":                          false,
	"99960,-99960,0,0/100000,-100000,0,0/5":                  true,
	"100000,0,0,0/100001,0,0,0/5":                            false,
	"0,-100000,0,0/0,-100001,0,0/5":                          false,
	"0,0,400,-400/-800,800,400,-400/0":                       true,
	"0,0,401,0/-802,0,400,0/5":                               false,
	"0,0,0,-401/0,802,0,-400/5":                              false,
	"0,0,400,0/-800,0,401,0/5":                               false,
	"0,0,0,-400/0,800,0,-401/5":                              false,
	"0,0,300,0/-600,0,-300,0/1200":                           true,
	"0,0,300,0/-600,0,-301,0/1200":                           false,
	"0,0,0,0/0,0,0,0/9223372036854775807":                    false,
	"0,0,0,0/0,0,0,0/-9223372036854775808":                   false,
	"0,0,20,0/0,0,0,0/9223372036854775807":                   false,
	"9223372036854775807,0,0,0/0,0,0,0/5":                    false,
	"0,0,-9223372036854775808,0/0,0,0,0/5":                   false,
	"0,0,9223372036854775807,0/-2,0,0,0/5":                   false,
	"0,0,-9223372036854775808,0/0,0,0,0/1200":                false,
	"0,0,0,0/0,0,4611686018427387904,0/1200":                 false,
	"0,0,4611686018427387904,0/0,0,0,0/1200":                 false,
	"9223372036854775807,0,0,0/-9223372036854775808,0,0,0/5": false,
}

// sampleMachines are valid: some at the limits, and some far from them.
func sampleMachines() []impl.Machine {
	var list []impl.Machine
	for s, isValid := range edgeMachines {
		if isValid {
			list = append(list, machine(s))
		}
	}
	slices.SortFunc(list, func(a, b impl.Machine) int { return strings.Compare(machineText(a), machineText(b)) })
	random := rand.New(rand.NewSource(40))
	for len(list) < 1000 {
		if m := randomMachine(random); machineIsValid(m) {
			list = append(list, m)
		}
	}
	return list
}

// randomMachine returns a machine that often can be pushed and take a ring, and need not be valid.
func randomMachine(random *rand.Rand) impl.Machine {
	around := func(most int64) int64 { return random.Int63n(2*most+1) - most }
	pick := func(list ...int64) int64 { return list[random.Intn(len(list))] }
	far := pick(20, 20, 1000, 100000)
	turned := pick(5, 5, 5, 40, 400)
	tube := impl.Pose{Side: around(far), Height: around(far), Yaw: around(turned), Pitch: around(turned)}
	swing := pick(2, 10, 30)
	shield := impl.Pose{Yaw: tube.Yaw + around(swing), Pitch: tube.Pitch + around(swing)}
	shift := pick(3, 20, 41)
	shield.Side = tube.Side + 2*shield.Yaw + around(shift)
	shield.Height = tube.Height + 2*shield.Pitch + pick(around(shift), around(shift), 40, -40)
	advance := pick(600, 600, 2100, 2100, random.Int63n(2401), 1500+random.Int63n(60), 870+random.Int63n(60))
	return impl.Machine{Shield: shield, Tube: tube, Advance: advance}
}

func TestLimitsOfMachines(t *testing.T) {
	got := results(impl.NominalGap, impl.TailLever, impl.JackFactor, impl.RingWidth, impl.MaxStroke, impl.MaxCycles)
	expect(t, "limits", got, "[40 2 4 1500 2400 20]")
}

func TestValidMachine(t *testing.T) {
	for s, want := range edgeMachines {
		if got := impl.ValidMachine(machine(s)); got != want {
			t.Errorf("ValidMachine(%s): got %v", s, got)
		}
	}
	random := rand.New(rand.NewSource(41))
	counts := map[bool]int{}
	for range 5000 {
		m := randomMachine(random)
		fields := []*int64{&m.Shield.Side, &m.Shield.Height, &m.Shield.Yaw, &m.Shield.Pitch, &m.Tube.Side, &m.Tube.Height, &m.Tube.Yaw, &m.Tube.Pitch, &m.Advance}
		*fields[random.Intn(9)] += random.Int63n(121) - 60
		got := impl.ValidMachine(m)
		if got != machineIsValid(m) {
			t.Errorf("ValidMachine(%s): got %v", machineText(m), got)
		}
		counts[got]++
	}
	if counts[true] < 500 || counts[false] < 500 {
		t.Errorf("%d of the machines are valid, and %d are not", counts[true], counts[false])
	}
}

func TestGapsAndStrokesHaveConstantSums(t *testing.T) {
	for _, m := range sampleMachines() {
		s := machineText(m)
		gaps, ok := impl.GapsOf(m)
		expect(t, "GapsOf("+s+")", results(gaps, ok), results(gapsOf(m), true))
		strokes, ok := impl.StrokesOf(m)
		expect(t, "StrokesOf("+s+")", results(strokes, ok), results(strokesOf(m), true))
		sums := results(gaps[0]+gaps[2], gaps[1]+gaps[3], strokes[0]+strokes[2], strokes[1]+strokes[3])
		expect(t, "the sums of "+s, sums, results(80, 80, 2*m.Advance, 2*m.Advance))
		back, ok := impl.MachineFrom(m.Tube, gaps, strokes)
		expect(t, "MachineFrom the gaps and strokes of "+s, found(back, ok), s)
		mirror, one := impl.MirrorMachine(m)
		gaps[0], gaps[2] = gaps[2], gaps[0]
		strokes[0], strokes[2] = strokes[2], strokes[0]
		mirrorGaps, two := impl.GapsOf(mirror)
		mirrorStrokes, three := impl.StrokesOf(mirror)
		expect(t, "the mirror of "+s, results(one, mirrorGaps, two, mirrorStrokes, three), results(true, gaps, true, strokes, true))
	}
}

func TestGapsAndStrokesInTheirOrder(t *testing.T) {
	for _, c := range []struct{ machine, gaps, strokes string }{
		{"10,0,5,1/3,0,2,1/600", "37,38,43,42", "594,600,606,600"},
		{"0,0,0,0/0,0,0,0/0", "40,40,40,40", "0,0,0,0"},
		{"0,0,0,0/1,0,0,0/10", "39,40,41,40", "10,10,10,10"},
		{"0,0,0,0/0,1,0,0/10", "40,39,40,41", "10,10,10,10"},
		{"1,0,0,0/0,0,0,0/10", "41,40,39,40", "10,10,10,10"},
		{"0,1,0,0/0,0,0,0/10", "40,41,40,39", "10,10,10,10"},
		{"0,0,1,0/0,0,0,0/10", "38,40,42,40", "8,10,12,10"},
		{"0,0,0,1/0,0,0,0/10", "40,38,40,42", "10,8,10,12"},
		{"0,0,0,0/0,0,1,0/10", "40,40,40,40", "12,10,8,10"},
		{"0,0,0,0/0,0,0,1/10", "40,40,40,40", "10,12,10,8"},
		{"0,0,20,0/0,0,0,0/40", "0,40,80,40", "0,40,80,40"},
		{"0,0,0,-20/0,0,0,0/2360", "40,80,40,0", "2360,2400,2360,2320"},
	} {
		gaps, one := impl.GapsOf(machine(c.machine))
		strokes, two := impl.StrokesOf(machine(c.machine))
		expect(t, c.machine, results(gaps, one, strokes, two), results(numbers(c.gaps), true, numbers(c.strokes), true))
		back, ok := impl.MachineFrom(machine(c.machine).Tube, numbers(c.gaps), numbers(c.strokes))
		expect(t, "MachineFrom the gaps and strokes of "+c.machine, found(back, ok), c.machine)
	}
}

// shieldsOf tries all poses of the shield in one direction, and returns the place and the heading of those that have two opposite gaps and strokes.
func shieldsOf(place, heading, gap, oppositeGap, stroke, oppositeStroke int64) [][2]int64 {
	var list [][2]int64
	for yaw := int64(-400); yaw <= 400; yaw++ {
		half := 2 * (yaw - heading)
		if stroke+half != oppositeStroke-half {
			continue
		}
		for offset := int64(-40); offset <= 40; offset++ {
			if gap == 40-offset && oppositeGap == 40+offset {
				list = append(list, [2]int64{place + 2*yaw - offset, yaw})
			}
		}
	}
	return list
}

// machineOf tries all machines with a tube, gaps and strokes.
func machineOf(tube impl.Pose, gaps, strokes []int64) (impl.Machine, bool) {
	if len(gaps) != 4 || len(strokes) != 4 {
		return impl.Machine{}, false
	}
	var list []impl.Machine
	for _, side := range shieldsOf(tube.Side, tube.Yaw, gaps[0], gaps[2], strokes[0], strokes[2]) {
		for _, height := range shieldsOf(tube.Height, tube.Pitch, gaps[1], gaps[3], strokes[1], strokes[3]) {
			shield := impl.Pose{Side: side[0], Height: height[0], Yaw: side[1], Pitch: height[1]}
			m := impl.Machine{Shield: shield, Tube: tube, Advance: strokes[0] + 2*(shield.Yaw-tube.Yaw)}
			if machineIsValid(m) && slices.Equal(strokesOf(m), strokes) {
				list = append(list, m)
			}
		}
	}
	if len(list) != 1 {
		return impl.Machine{}, false
	}
	return list[0], true
}

// spoiled changes one number, or two opposite ones by the same or by opposite amounts.
func spoiled(random *rand.Rand, list []int64) []int64 {
	list = slices.Clone(list)
	at := random.Intn(4)
	amount := random.Int63n(9) - 4
	list[at] += amount
	switch random.Intn(4) {
	case 0:
		list[(at+2)%4] += amount
	case 1, 2:
		list[(at+2)%4] -= amount
	}
	return list
}

func TestMachineFromTriesAllMachines(t *testing.T) {
	random := rand.New(rand.NewSource(42))
	counts := map[bool]int{}
	for _, m := range sampleMachines() {
		gaps, strokes := gapsOf(m), strokesOf(m)
		if random.Intn(2) == 0 {
			gaps = spoiled(random, gaps)
		} else {
			strokes = spoiled(random, strokes)
		}
		want, isMachine := machineOf(m.Tube, gaps, strokes)
		got, ok := impl.MachineFrom(m.Tube, gaps, strokes)
		expect(t, fmt.Sprintf("MachineFrom(%v, %v, %v)", m.Tube, gaps, strokes), found(got, ok), found(want, isMachine))
		counts[ok]++
	}
	if counts[true] < 100 || counts[false] < 100 {
		t.Errorf("%d of the samples are machines, and %d are none", counts[true], counts[false])
	}
}

func TestMachineFromAtItsLimits(t *testing.T) {
	for _, c := range []struct{ tube, gaps, strokes, want string }{
		{"3,0,2,1", "37,38,43,42", "594,600,606,600", "10,0,5,1/3,0,2,1/600"},
		// Opposite numbers that have no constant sum.
		{"3,0,2,1", "37,38,44,42", "594,600,606,600", ""},
		{"3,0,2,1", "36,38,43,42", "594,600,606,600", ""},
		{"3,0,2,1", "37,38,43,43", "594,600,606,600", ""},
		{"3,0,2,1", "37,38,43,42", "594,600,607,600", ""},
		{"3,0,2,1", "37,38,43,42", "594,600,608,600", ""},
		{"3,0,2,1", "37,38,43,42", "594,601,606,601", ""},
		{"3,0,2,1", "37,38,43,42", "594,602,606,600", ""},
		{"0,0,0,0", "41,40,41,40", "0,0,0,0", ""},
		{"0,0,0,0", "40,39,40,39", "0,0,0,0", ""},
		// Opposite strokes differ by four times what the headings differ by.
		{"0,0,0,0", "40,40,40,40", "10,10,10,10", "0,0,0,0/0,0,0,0/10"},
		{"0,0,0,0", "40,40,40,40", "9,10,11,10", ""},
		{"0,0,0,0", "40,40,40,40", "8,10,12,10", "2,0,1,0/0,0,0,0/10"},
		{"0,0,0,0", "40,40,40,40", "12,10,8,10", "-2,0,-1,0/0,0,0,0/10"},
		{"0,0,0,0", "40,40,40,40", "10,7,10,13", ""},
		{"0,0,0,0", "40,40,40,40", "10,6,10,14", "0,4,0,2/0,0,0,0/10"},
		{"0,0,0,0", "40,40,40,40", "10,14,10,6", "0,-4,0,-2/0,0,0,0/10"},
		// Gaps of 0 and below.
		{"0,0,0,0", "0,80,80,0", "5,5,5,5", "-40,40,0,0/0,0,0,0/5"},
		{"0,0,0,0", "80,0,0,80", "5,5,5,5", "40,-40,0,0/0,0,0,0/5"},
		{"0,0,0,0", "-1,40,81,40", "5,5,5,5", ""},
		{"0,0,0,0", "81,40,-1,40", "5,5,5,5", ""},
		{"0,0,0,0", "40,-1,40,81", "5,5,5,5", ""},
		{"0,0,0,0", "40,81,40,-1", "5,5,5,5", ""},
		// Strokes and Advance at both ends.
		{"0,0,0,0", "40,40,40,40", "0,0,0,0", "0,0,0,0/0,0,0,0/0"},
		{"0,0,0,0", "40,40,40,40", "-1,-1,-1,-1", ""},
		{"0,0,0,0", "40,40,40,40", "2400,2400,2400,2400", "0,0,0,0/0,0,0,0/2400"},
		{"0,0,0,0", "40,40,40,40", "2401,2401,2401,2401", ""},
		{"0,0,0,0", "40,40,40,40", "0,2,4,2", "2,0,1,0/0,0,0,0/2"},
		{"0,0,0,0", "40,40,40,40", "-1,1,3,1", ""},
		{"0,0,0,0", "40,40,40,40", "2398,2396,2398,2400", "0,2,0,1/0,0,0,0/2398"},
		{"0,0,0,0", "40,40,40,40", "2399,2397,2399,2401", ""},
		// Poses at both ends.
		{"0,0,-200,0", "40,40,40,40", "0,1200,2400,1200", "800,0,400,0/0,0,-200,0/1200"},
		{"0,0,-199,0", "40,40,40,40", "0,1200,2400,1200", ""},
		{"0,0,0,200", "40,40,40,40", "1200,2400,1200,0", "0,-800,0,-400/0,0,0,200/1200"},
		{"0,0,0,199", "40,40,40,40", "1200,2400,1200,0", ""},
		{"100000,0,0,0", "40,40,40,40", "5,5,5,5", "100000,0,0,0/100000,0,0,0/5"},
		{"100000,0,0,0", "41,40,39,40", "5,5,5,5", ""},
		{"100000,0,0,0", "39,40,41,40", "5,5,5,5", "99999,0,0,0/100000,0,0,0/5"},
		{"100001,0,0,0", "39,40,41,40", "5,5,5,5", ""},
		{"0,-100001,0,0", "40,41,40,39", "5,5,5,5", ""},
		{"0,0,401,0", "40,40,40,40", "7,5,3,5", ""},
		{"0,0,0,-401", "40,40,40,40", "5,3,5,7", ""},
		// Lists that are too short or too long.
		{"0,0,0,0", "40,40,40", "5,5,5,5", ""},
		{"0,0,0,0", "40,40,40,40", "5,5,5", ""},
		{"0,0,0,0", "40,40,40,40,40", "5,5,5,5", ""},
		{"0,0,0,0", "40,40,40,40", "5,5,5,5,5", ""},
	} {
		m, ok := impl.MachineFrom(pose(c.tube), numbers(c.gaps), numbers(c.strokes))
		expect(t, fmt.Sprintf("MachineFrom(%s, %s, %s)", c.tube, c.gaps, c.strokes), found(m, ok), c.want)
	}
}

func TestMachineFromReturnsForStrangeLists(t *testing.T) {
	for _, n := range strangeNumbers() {
		for at := range 8 {
			list := []int64{40, 40, 40, 40, 5, 5, 5, 5}
			list[at] = n
			want := ""
			if list[0] == 40 && list[1] == 40 && list[2] == 40 && list[3] == 40 && list[4] == 5 && list[5] == 5 && list[6] == 5 && list[7] == 5 {
				want = "0,0,0,0/0,0,0,0/5"
			}
			m, ok := impl.MachineFrom(impl.Pose{}, list[:4], list[4:])
			expect(t, fmt.Sprintf("MachineFrom(%v)", list), found(m, ok), want)
		}
		for _, list := range [][]int64{
			{n, 40, 80 - n, 40, 5, 5, 5, 5},
			{40, n, 40, 80 - n, 5, 5, 5, 5},
			{40, 40, 40, 40, n, 5, 10 - n, 5},
			{40, 40, 40, 40, 5, n, 5, 10 - n},
			{40, 40, 40, 40, n, n, n, n},
			{n, n, n, n, n, n, n, n},
		} {
			m, ok := impl.MachineFrom(impl.Pose{}, list[:4], list[4:])
			if ok && !(machineIsValid(m) && slices.Equal(gapsOf(m), list[:4]) && slices.Equal(strokesOf(m), list[4:])) {
				t.Errorf("MachineFrom(%v): got %s", list, machineText(m))
			}
			if small := n < 3000 && n > -3000; small {
				want, isMachine := machineOf(impl.Pose{}, list[:4], list[4:])
				expect(t, fmt.Sprintf("MachineFrom(%v)", list), found(m, ok), found(want, isMachine))
			} else if ok {
				t.Errorf("MachineFrom(%v) succeeds", list)
			}
		}
	}
	for _, list := range [][]int64{nil, {}, {5}, repeated(5, 3), repeated(5, 5), repeated(40, 100000)} {
		one, first := impl.MachineFrom(impl.Pose{}, list, repeated(5, 4))
		two, second := impl.MachineFrom(impl.Pose{}, repeated(40, 4), list)
		expect(t, "MachineFrom other lists", found(one, first)+found(two, second), "")
	}
}

func TestLeastGap(t *testing.T) {
	for _, c := range []struct{ machine, want string }{
		{"0,0,0,0/3,2,0,0/5", "[37 0 true]"},
		{"0,0,0,0/2,3,0,0/5", "[37 1 true]"},
		{"0,0,0,0/-3,2,0,0/5", "[37 2 true]"},
		{"0,0,0,0/2,-3,0,0/5", "[37 3 true]"},
		// Several gaps are least.
		{"0,0,0,0/0,0,0,0/5", "[40 0 true]"},
		{"0,0,0,0/3,3,0,0/5", "[37 0 true]"},
		{"0,0,0,0/-3,3,0,0/5", "[37 1 true]"},
		{"0,0,0,0/-3,-3,0,0/5", "[37 2 true]"},
		{"0,0,0,0/3,-3,0,0/5", "[37 0 true]"},
		// No gap is left.
		{"0,0,0,0/40,0,0,0/5", "[0 0 true]"},
		{"0,0,0,0/39,40,0,0/5", "[0 1 true]"},
		{"0,0,0,0/-40,0,0,0/5", "[0 2 true]"},
		{"0,0,0,0/0,-40,0,0/5", "[0 3 true]"},
		{"0,0,0,0/-40,40,0,0/5", "[0 1 true]"},
		{"0,0,0,0/41,0,0,0/5", "[0 0 false]"},
		{"10,0,5,1/3,0,2,1/600", "[37 0 true]"},
	} {
		least, at, ok := impl.LeastGap(machine(c.machine))
		expect(t, "LeastGap("+c.machine+")", results(least, at, ok), c.want)
	}
	for _, m := range sampleMachines() {
		gaps := gapsOf(m)
		want := slices.Min(gaps)
		least, at, ok := impl.LeastGap(m)
		expect(t, "LeastGap("+machineText(m)+")", results(least, at, ok), results(want, slices.Index(gaps, want), true))
	}
}

func TestPushMachine(t *testing.T) {
	random := rand.New(rand.NewSource(43))
	pushes := 0
	for _, m := range sampleMachines() {
		for range 5 {
			bend, rise := random.Int63n(29)-14, random.Int63n(29)-14
			want, isMachine := pushOf(m, bend, rise)
			if isMachine {
				pushes++
			}
			got, ok := impl.PushMachine(m, bend, rise)
			expect(t, fmt.Sprintf("PushMachine(%s, %d, %d)", machineText(m), bend, rise), found(got, ok), found(want, isMachine))
		}
	}
	if pushes < 200 {
		t.Errorf("only %d of the pushes of the samples succeed", pushes)
	}
}

func TestPushMachineAtItsLimits(t *testing.T) {
	for _, c := range []struct {
		machine    string
		bend, rise int64
		want       string
	}{
		{"0,0,0,0/0,0,0,0/600", 1, 0, "0,0,1,0/0,0,0,0/2100"},
		{"5,-6,2,3/4,5,6,7/600", -4, 5, "7,-3,-2,8/4,5,6,7/2100"},
		{"0,0,0,0/0,0,0,0/600", 12, -12, "0,0,12,-12/0,0,0,0/2100"},
		{"0,0,0,0/0,0,0,0/600", 13, 0, ""},
		{"0,0,0,0/0,0,0,0/600", -13, 0, ""},
		{"0,0,0,0/0,0,0,0/600", 0, 13, ""},
		{"0,0,0,0/0,0,0,0/600", 0, -13, ""},
		{"0,0,0,0/0,0,0,0/600", math.MaxInt64, math.MinInt64, ""},
		// Advance and strokes just reach their limits, and are just behind them.
		{"0,0,0,0/0,0,0,0/0", 0, 0, "0,0,0,0/0,0,0,0/1500"},
		{"0,0,0,0/0,0,0,0/900", 0, 0, "0,0,0,0/0,0,0,0/2400"},
		{"0,0,0,0/0,0,0,0/901", 0, 0, ""},
		{"0,0,0,0/0,0,0,0/898", 1, 0, "0,0,1,0/0,0,0,0/2398"},
		{"0,0,0,0/0,0,0,0/899", 1, 0, ""},
		{"0,0,0,0/0,0,0,0/898", -1, 0, "0,0,-1,0/0,0,0,0/2398"},
		{"0,0,0,0/0,0,0,0/899", -1, 0, ""},
		{"0,0,0,0/0,0,0,0/896", 0, 2, "0,0,0,2/0,0,0,0/2396"},
		{"0,0,0,0/0,0,0,0/897", 0, 2, ""},
		{"0,0,0,0/0,0,0,0/896", 0, -2, "0,0,0,-2/0,0,0,0/2396"},
		{"0,0,0,0/0,0,0,0/897", 0, -2, ""},
		{"0,0,12,0/0,0,0,0/900", -12, 0, "12,0,0,0/0,0,0,0/2400"},
		// Gaps are just 0, and just below.
		{"0,0,16,0/0,0,0,0/600", 12, 0, "16,0,28,0/0,0,0,0/2100"},
		{"0,0,16,0/1,0,0,0/600", 12, 0, ""},
		{"0,0,16,0/1,0,0,0/600", 11, 0, "16,0,27,0/1,0,0,0/2100"},
		{"0,0,-16,0/0,0,0,0/600", -12, 0, "-16,0,-28,0/0,0,0,0/2100"},
		{"0,0,-16,0/-1,0,0,0/600", -12, 0, ""},
		{"0,0,0,16/0,0,0,0/600", 0, 12, "0,16,0,28/0,0,0,0/2100"},
		{"0,0,0,16/0,1,0,0/600", 0, 12, ""},
		{"0,0,0,-16/0,0,0,0/600", 0, -12, "0,-16,0,-28/0,0,0,0/2100"},
		{"0,0,0,-16/0,-1,0,0/600", 0, -12, ""},
		{"40,0,0,0/0,0,0,0/600", 0, 0, "40,0,0,0/0,0,0,0/2100"},
		{"40,0,0,0/0,0,0,0/600", -1, 0, ""},
		// The shield reaches the last place, and would leave it.
		{"99990,0,10,0/99990,0,0,0/600", 0, 0, "100000,0,10,0/99990,0,0,0/2100"},
		{"99991,0,10,0/99991,0,0,0/600", 0, 0, ""},
		{"0,-99990,0,-10/0,-99990,0,0/600", 0, 0, "0,-100000,0,-10/0,-99990,0,0/2100"},
		{"0,-99991,0,-10/0,-99991,0,0/600", 0, 0, ""},
		// A machine that is not valid is not pushed, even if the next one would be valid.
		{"0,0,0,0/0,0,0,0/-1", 0, 0, ""},
		{"0,0,0,0/0,0,0,0/-600", 0, 0, ""},
		{"41,0,0,0/0,0,0,0/600", 1, 0, ""},
		{"-100001,0,5,0/-100000,0,5,0/600", 0, 0, ""},
	} {
		m, ok := impl.PushMachine(machine(c.machine), c.bend, c.rise)
		expect(t, fmt.Sprintf("PushMachine(%s, %d, %d)", c.machine, c.bend, c.rise), found(m, ok), c.want)
	}
}

func TestBuildRing(t *testing.T) {
	builds := 0
	for _, m := range sampleMachines() {
		for _, r := range append(allRings(), badRings()...) {
			want, isMachine := buildOf(m, r)
			if isMachine {
				builds++
			}
			got, ok := impl.BuildRing(m, r)
			expect(t, fmt.Sprintf("BuildRing(%s, %v)", machineText(m), r), found(got, ok), found(want, isMachine))
		}
	}
	if builds < 2000 {
		t.Errorf("only %d of the rings of the samples are built", builds)
	}
}

func TestBuildRingAtItsLimits(t *testing.T) {
	for _, c := range []struct{ machine, ring, want string }{
		{"0,0,1,0/0,0,0,0/2100", "t0", "0,0,1,0/0,0,10,0/600"},
		{"0,0,0,0/1,2,3,4/2100", "t9", "0,0,0,0/4,6,-6,0/600"},
		{"0,0,0,0/1,2,3,4/2100", "s9", "0,0,0,0/4,6,3,4/600"},
		{"0,0,0,0/0,0,0,0/2100", "t16", ""},
		{"0,0,0,0/0,0,0,0/2100", "s-1", ""},
		// Advance and strokes just reach their limits, and are just behind them.
		{"0,0,0,0/0,0,0,0/2400", "s0", "0,0,0,0/0,0,0,0/900"},
		{"0,0,0,0/0,0,0,0/1500", "s0", "0,0,0,0/0,0,0,0/0"},
		{"0,0,0,0/0,0,0,0/1499", "s0", ""},
		{"0,0,0,0/0,0,0,0/0", "s0", ""},
		{"0,0,0,0/0,0,0,0/1520", "t0", "0,0,0,0/0,0,10,0/20"},
		{"0,0,0,0/0,0,0,0/1519", "t0", ""},
		{"0,0,0,0/0,0,0,0/1520", "t8", "0,0,0,0/0,0,-10,0/20"},
		{"0,0,0,0/0,0,0,0/1519", "t8", ""},
		{"0,0,0,0/0,0,0,0/1520", "t4", "0,0,0,0/0,0,0,10/20"},
		{"0,0,0,0/0,0,0,0/1519", "t4", ""},
		{"0,0,0,0/0,0,0,0/1520", "t12", "0,0,0,0/0,0,0,-10/20"},
		{"0,0,0,0/0,0,0,0/1519", "t12", ""},
		{"0,0,10,0/0,0,0,0/1500", "t0", "0,0,10,0/0,0,10,0/0"},
		{"0,0,10,0/0,0,0,0/1500", "s0", ""},
		// Gaps are just 0, and just below; the turn of the ring itself does not move the tube.
		{"0,0,0,0/0,0,40,0/1600", "s0", "0,0,0,0/40,0,40,0/100"},
		{"0,0,0,0/0,0,41,0/1600", "s0", ""},
		{"0,0,0,0/0,0,41,0/1600", "t8", ""},
		{"0,0,0,0/1,0,40,0/1600", "s0", ""},
		{"0,0,0,0/0,0,-40,0/1600", "t0", "0,0,0,0/-40,0,-30,0/100"},
		{"0,0,0,0/0,0,-41,0/1600", "t0", ""},
		{"0,0,0,0/0,0,0,40/1600", "s0", "0,0,0,0/0,40,0,40/100"},
		{"0,0,0,0/0,0,0,41/1600", "s0", ""},
		{"0,0,0,0/0,0,0,-40/1600", "s0", "0,0,0,0/0,-40,0,-40/100"},
		{"0,0,0,0/0,0,0,-41/1600", "s0", ""},
		// The tube reaches the last place, and would leave it.
		{"99990,0,0,0/99990,0,10,0/1600", "s0", "99990,0,0,0/100000,0,10,0/100"},
		{"99991,0,0,0/99991,0,10,0/1600", "s0", ""},
		{"0,-99990,0,0/0,-99990,0,-10/1600", "s0", "0,-99990,0,0/0,-100000,0,-10/100"},
		{"0,-99991,0,0/0,-99991,0,-10/1600", "s0", ""},
		// In a machine that is not valid no ring is built, even if the next one would be valid.
		{"0,0,0,0/0,0,0,0/2401", "s0", ""},
		{"0,0,0,0/41,0,-1,0/2100", "s0", ""},
		{"0,0,0,0/-100001,0,1,0/2100", "s0", ""},
	} {
		m, ok := impl.BuildRing(machine(c.machine), ring(c.ring))
		expect(t, fmt.Sprintf("BuildRing(%s, %s)", c.machine, c.ring), found(m, ok), c.want)
	}
}
