package tests

import (
	"fmt"
	"math/rand"
	"slices"
	"strings"
	"testing"

	"loop.example/g01099/impl"
)

// noDrive is what functions return that fail.
var noDrive = impl.Drive{}

func TestNewDrive(t *testing.T) {
	for s, isValid := range map[string]bool{
		"0,0,0,0;1:0,0":             true,
		"10,20,3,-4;2:1,0;1:0,1":    true,
		"0,0,400,-400;1:0,0":        true,
		"99998,0,1,0;1:0,0":         true,
		"99999,0,1,0;1:0,0":         false,
		"-99998,0,-1,0;1:0,0":       true,
		"-99999,0,-1,0;1:0,0":       false,
		"0,99998,0,1;1:0,0":         true,
		"0,99999,0,1;1:0,0":         false,
		"0,-99998,0,-1;1:0,0":       true,
		"0,-99999,0,-1;1:0,0":       false,
		"100000,-100000,0,0;60:0,0": true,
		"100000,0,-400,0;60:0,0":    true,
		"99200,0,400,0;2:0,0":       true,
		"99201,0,400,0;1:0,0":       false,
		"0,0,0,0;61:0,0":            false,
		"0,0,0,0;0:0,0":             false,
		"0,0,0,0":                   false,
		"0,0,401,0;1:0,0":           false,
		"0,0,400,0;1:1,0":           false,
	} {
		want := drive(s, oneClass, 500, 1000)
		if !isValid {
			want = noDrive
		}
		d, ok := impl.NewDrive(axis(s), ground(oneClass), 500, 1000)
		expect(t, "NewDrive along "+s, results(d, ok), results(want, isValid))
	}
	d, _ := impl.NewDrive(axis("10,20,3,-4;2:1,0;1:0,1"), ground(oneClass), 500, 1000)
	expect(t, "the machine of a new drive", machineText(d.Machine), "16,12,3,-4/10,20,3,-4/300")
}

func TestNewDriveWithAllowancesAndLimits(t *testing.T) {
	for _, n := range []int64{-1000000, -1, 0, 1, 999999, 1000000, 1000001} {
		isValid := areFrom(0, 1000000, n)
		for _, pair := range [][2]int64{{n, 5}, {5, n}, {n, n}} {
			want := noDrive
			if isValid {
				want = drive("0,0,0,0;1:0,0", oneClass, pair[0], pair[1])
			}
			d, ok := impl.NewDrive(axis("0,0,0,0;1:0,0"), ground(oneClass), pair[0], pair[1])
			expect(t, fmt.Sprint("NewDrive with ", pair), results(d, ok), results(want, isValid))
		}
	}
}

func TestNewDriveOfManyAxesAndGrounds(t *testing.T) {
	grounds := append(sampleGrounds(), badGrounds()...)
	axes := sampleAxes()
	for s, isValid := range edgeAxes {
		if isValid {
			axes = append(axes, axis(s))
			continue
		}
		d, ok := impl.NewDrive(axis(s), ground(oneClass), 0, 0)
		expect(t, "NewDrive along "+s, results(d, ok), results(noDrive, false))
	}
	counts := map[bool]int{}
	for i, a := range axes {
		for k := range 5 {
			g := grounds[(i*5+k)%len(grounds)]
			want := impl.Drive{Axis: a, Ground: g, Allowance: int64(i), Limit: int64(k)}
			want.Machine = drive(axisText(impl.Axis{Start: a.Start}), oneClass, 0, 0).Machine
			isValid := driveIsValid(want)
			counts[isValid]++
			if !isValid {
				want = noDrive
			}
			d, ok := impl.NewDrive(a, g, int64(i), int64(k))
			expect(t, "NewDrive along "+axisText(a)+" in "+groundText(g), results(d, ok, impl.ValidDrive(d)), results(want, isValid, isValid))
		}
	}
	if counts[true] < 100 || counts[false] < 100 {
		t.Errorf("drives that are valid: %v", counts)
	}
}

// changesOfDrive change the drive with two rings, three pushes and a grout along five rings, and tell whether it is valid then.
var changesOfDrive = []struct {
	name    string
	isValid bool
	change  func(d *impl.Drive)
}{
	{"nothing", true, func(d *impl.Drive) {}},
	{"Allowance 0", true, func(d *impl.Drive) { d.Allowance = 0 }},
	{"Allowance -1", false, func(d *impl.Drive) { d.Allowance = -1 }},
	{"Allowance MaxWeighed", true, func(d *impl.Drive) { d.Allowance = 1000000 }},
	{"Allowance MaxWeighed + 1", false, func(d *impl.Drive) { d.Allowance = 1000001 }},
	{"Limit 0", true, func(d *impl.Drive) { d.Limit = 0 }},
	{"Limit -1", false, func(d *impl.Drive) { d.Limit = -1 }},
	{"Limit MaxWeighed", true, func(d *impl.Drive) { d.Limit = 1000000 }},
	{"Limit MaxWeighed + 1", false, func(d *impl.Drive) { d.Limit = 1000001 }},

	{"no curves", false, func(d *impl.Drive) { d.Axis.Curves = nil }},
	{"an axis that is bent", true, func(d *impl.Drive) { d.Axis = axis("0,0,0,0;3:1,2;7:0,-1") }},
	{"an axis with as many rings as pushes", true, func(d *impl.Drive) { d.Axis = axis("0,0,0,0;3:0,0") }},
	{"an axis with fewer rings than pushes", false, func(d *impl.Drive) { d.Axis = axis("0,0,0,0;2:0,0") }},
	{"an axis of as many rings as built", true, func(d *impl.Drive) { d.Axis = axis("0,0,0,0;2:0,0"); d.Balance = d.Balance[:2] }},
	{"an axis of fewer rings than built", false, func(d *impl.Drive) { d.Axis = axis("0,0,0,0;1:0,0"); d.Balance = d.Balance[:2] }},
	{"an axis of MaxRings", true, func(d *impl.Drive) { d.Axis = axis("0,0,0,0;60:0,0") }},
	{"an axis with more rings", false, func(d *impl.Drive) { d.Axis = axis("0,0,0,0;61:0,0") }},
	{"an axis that starts beside the tube", false, func(d *impl.Drive) { d.Axis.Start.Side = 1 }},
	{"an axis that starts above the tube", false, func(d *impl.Drive) { d.Axis.Start.Height = 1 }},
	{"an axis with another heading", false, func(d *impl.Drive) { d.Axis.Start.Yaw = -1 }},
	{"an axis with another pitch", false, func(d *impl.Drive) { d.Axis.Start.Pitch = -1 }},

	{"another ground", true, func(d *impl.Drive) { d.Ground = ground(twoClasses) }},
	{"no ground", false, func(d *impl.Drive) { d.Ground = impl.Ground{} }},
	{"a ground without holes", false, func(d *impl.Drive) { d.Ground.Holes = nil }},
	{"a ground without weight", false, func(d *impl.Drive) { d.Ground.Densities = numbers("0") }},

	{"another place of the shield", true, func(d *impl.Drive) { d.Machine.Shield.Side++ }},
	{"another height of the shield", true, func(d *impl.Drive) { d.Machine.Shield.Height-- }},
	{"a gap of 0", true, func(d *impl.Drive) { d.Machine.Shield.Side += 40 }},
	{"no gap", false, func(d *impl.Drive) { d.Machine.Shield.Side += 41 }},
	{"Advance MaxStroke", false, func(d *impl.Drive) { d.Machine.Advance = 2400 }},
	{"strokes up to MaxStroke", true, func(d *impl.Drive) { d.Machine.Advance = 2386 }},
	{"strokes beyond MaxStroke", false, func(d *impl.Drive) { d.Machine.Advance = 2387 }},
	{"strokes from 0 on", true, func(d *impl.Drive) { d.Machine.Advance = 14 }},
	{"strokes below 0", false, func(d *impl.Drive) { d.Machine.Advance = 13 }},
	{"a tube beside the last ring", false, func(d *impl.Drive) { d.Machine.Tube.Side++ }},
	{"a tube above the last ring", false, func(d *impl.Drive) { d.Machine.Tube.Height++ }},
	{"a tube with another heading", false, func(d *impl.Drive) { d.Machine.Tube.Yaw++ }},
	{"a tube with another pitch", false, func(d *impl.Drive) { d.Machine.Tube.Pitch-- }},
	{"the tube in front of the last ring", false, func(d *impl.Drive) { d.Machine.Tube = d.Axis.Start }},

	{"rings that turn in the same way", true, func(d *impl.Drive) { d.Built = tube("s3 t2"); d.Built[0].Key = 10 }},
	{"rings that turn in another way", false, func(d *impl.Drive) { d.Built = tube("s0 t5") }},
	{"rings whose joints meet", false, func(d *impl.Drive) { d.Built = tube("s1 t2") }},
	{"a ring with another kind", false, func(d *impl.Drive) { d.Built[0].Kind = 2 }},
	{"a ring with the kind -1", false, func(d *impl.Drive) { d.Built[0].Kind = -1 }},
	{"a ring with another key", false, func(d *impl.Drive) { d.Built[0].Key = 16 }},
	{"a ring with the key -1", false, func(d *impl.Drive) { d.Built[0].Key = -1 }},
	{"the last ring alone, which is not bent before", true, func(d *impl.Drive) { d.Built = d.Built[1:]; d.Balance = d.Balance[1:] }},
	{"only the first ring", false, func(d *impl.Drive) { d.Built = d.Built[:1]; d.Balance = d.Balance[:1] }},
	{"one straight ring more", false, func(d *impl.Drive) { d.Built = tube("s0 t2 s0") }},

	{"as many numbers as rings", true, func(d *impl.Drive) { d.Balance = d.Balance[:2] }},
	{"two numbers more than rings", false, func(d *impl.Drive) { d.Balance = numbers("1,2,3,4") }},
	{"three numbers more than rings", false, func(d *impl.Drive) { d.Balance = numbers("1,2,3,4,5") }},
	{"one number less than rings", false, func(d *impl.Drive) { d.Balance = d.Balance[:1] }},
	{"no number", false, func(d *impl.Drive) { d.Balance = nil }},
	{"a great number", true, func(d *impl.Drive) { d.Balance[0] = 1000000 }},
	{"a number that is too great", false, func(d *impl.Drive) { d.Balance[0] = 1000001 }},
	{"a small number", true, func(d *impl.Drive) { d.Balance[2] = -1000000 }},
	{"a number that is too small", false, func(d *impl.Drive) { d.Balance[2] = -1000001 }},

	{"no grout", true, func(d *impl.Drive) { d.Grouts = nil }},
	{"grout for the last ring", true, func(d *impl.Drive) { d.Grouts[0].Ring = 1 }},
	{"grout for both rings", true, func(d *impl.Drive) { d.Grouts = grouts("0:1/2/3 1:0/0/0") }},
	{"grout for the next ring", false, func(d *impl.Drive) { d.Grouts[0].Ring = 2 }},
	{"grout for both rings and the next one", false, func(d *impl.Drive) { d.Grouts = grouts("0:1/2/3 1:0/0/0 2:0/0/0") }},
	{"grout for the ring -1", false, func(d *impl.Drive) { d.Grouts[0].Ring = -1 }},
	{"grout twice for a ring", false, func(d *impl.Drive) { d.Grouts = grouts("0:1/2/3 0:1/2/3") }},
	{"grouts that do not increase", false, func(d *impl.Drive) { d.Grouts = grouts("1:1/2/3 0:1/2/3") }},
	{"a great void", true, func(d *impl.Drive) { d.Grouts[0].Void = 100000 }},
	{"a void that is too great", false, func(d *impl.Drive) { d.Grouts[0].Void = 100001 }},
	{"no void", true, func(d *impl.Drive) { d.Grouts[0].Void = 0 }},
	{"a void of -1", false, func(d *impl.Drive) { d.Grouts[0].Void = -1 }},
	{"much injected", true, func(d *impl.Drive) { d.Grouts[0].Injected = 100000 }},
	{"too much injected", false, func(d *impl.Drive) { d.Grouts[0].Injected = 100001 }},
	{"nothing injected", true, func(d *impl.Drive) { d.Grouts[0].Injected = 0 }},
	{"-1 injected", false, func(d *impl.Drive) { d.Grouts[0].Injected = -1 }},
	{"Shrink 100", true, func(d *impl.Drive) { d.Grouts[0].Shrink = 100 }},
	{"Shrink 101", false, func(d *impl.Drive) { d.Grouts[0].Shrink = 101 }},
	{"Shrink 0", true, func(d *impl.Drive) { d.Grouts[0].Shrink = 0 }},
	{"Shrink -1", false, func(d *impl.Drive) { d.Grouts[0].Shrink = -1 }},
}

// twoRings returns the drive that changesOfDrive change.
func twoRings() impl.Drive {
	return straight(5, "push 0 0 90000; build s0; grout 1 2 3; push 0 0 90001; build t2; push 0 0 89999")
}

func TestValidDrive(t *testing.T) {
	for _, c := range changesOfDrive {
		d := twoRings()
		c.change(&d)
		expect(t, "ValidDrive with "+c.name, results(impl.ValidDrive(d), driveIsValid(d)), results(c.isValid, c.isValid))
	}
	if impl.ValidDrive(noDrive) {
		t.Error("no drive is a valid one")
	}
}

// TestValidDriveWithManyRings has lists at their greatest lengths, and one beyond.
func TestValidDriveWithManyRings(t *testing.T) {
	whole := straight(60, straightRings(60))
	for _, c := range []struct {
		name    string
		isValid bool
		change  func(d *impl.Drive)
	}{
		{"60 rings", true, func(d *impl.Drive) {}},
		{"61 pushes", false, func(d *impl.Drive) { d.Balance = append(d.Balance, 0) }},
		{"59 pushes", false, func(d *impl.Drive) { d.Balance = d.Balance[:59] }},
		{"61 rings", false, func(d *impl.Drive) { d.Built = append(d.Built, ring("s0")) }},
		{"61 rings and pushes", false, func(d *impl.Drive) { d.Built, d.Balance = append(d.Built, ring("s0")), append(d.Balance, 0) }},
		{"59 rings", true, func(d *impl.Drive) { d.Built = d.Built[:59] }},
		{"58 rings", false, func(d *impl.Drive) { d.Built = d.Built[:58] }},
		{"58 rings and 59 pushes", true, func(d *impl.Drive) { d.Built, d.Balance = d.Built[:58], d.Balance[:59] }},
		{"12 grouts", true, func(d *impl.Drive) { d.Grouts = listOfGrouts(12) }},
		{"13 grouts", false, func(d *impl.Drive) { d.Grouts = listOfGrouts(13) }},
		{"12 grouts up to the last ring", true, func(d *impl.Drive) { d.Grouts = listOfGrouts(12); d.Grouts[11].Ring = 59 }},
		{"12 grouts beyond the last ring", false, func(d *impl.Drive) { d.Grouts = listOfGrouts(12); d.Grouts[11].Ring = 60 }},
	} {
		d := whole
		d.Built, d.Balance = slices.Clone(d.Built), slices.Clone(d.Balance)
		c.change(&d)
		expect(t, "ValidDrive with "+c.name, results(impl.ValidDrive(d), driveIsValid(d)), results(c.isValid, c.isValid))
	}
}

// copyOf returns a drive that shares no memory with another one.
func copyOf(d impl.Drive) impl.Drive {
	d.Axis = axis(axisText(d.Axis))
	d.Ground = ground(groundText(d.Ground))
	d.Built, d.Balance, d.Grouts = slices.Clone(d.Built), slices.Clone(d.Balance), slices.Clone(d.Grouts)
	return d
}

// slightlyChanged returns a drive in which a number or the length of a list is another one.
func slightlyChanged(random *rand.Rand, d impl.Drive) impl.Drive {
	d = copyOf(d)
	targets := []*int64{
		&d.Axis.Start.Side, &d.Axis.Start.Height, &d.Axis.Start.Yaw, &d.Axis.Start.Pitch, &d.Axis.Curves[0].Rings, &d.Axis.Curves[0].Bend, &d.Allowance, &d.Limit,
		&d.Machine.Shield.Side, &d.Machine.Shield.Height, &d.Machine.Shield.Yaw, &d.Machine.Shield.Pitch, &d.Machine.Tube.Side, &d.Machine.Tube.Height, &d.Machine.Tube.Yaw, &d.Machine.Tube.Pitch, &d.Machine.Advance,
		&d.Ground.Densities[0], &d.Ground.Holes[0].Ring, &d.Ground.Holes[0].Tops[0],
	}
	for i := range d.Built {
		targets = append(targets, &d.Built[i].Kind, &d.Built[i].Key)
	}
	for i := range d.Balance {
		targets = append(targets, &d.Balance[i])
	}
	for i := range d.Grouts {
		targets = append(targets, &d.Grouts[i].Ring, &d.Grouts[i].Void, &d.Grouts[i].Injected, &d.Grouts[i].Shrink)
	}
	*targets[random.Intn(len(targets))] += []int64{1, -1, 1, -1, 1000, -1000}[random.Intn(6)]
	switch random.Intn(12) {
	case 0:
		d.Balance = append(d.Balance, 0)
	case 1:
		d.Balance = d.Balance[:max(len(d.Balance)-1, 0)]
	case 2:
		d.Grouts = d.Grouts[:max(len(d.Grouts)-1, 0)]
	case 3:
		d.Built = append(d.Built, ring("s0"))
	}
	return d
}

func TestValidDriveOfManyDrives(t *testing.T) {
	random := rand.New(rand.NewSource(111))
	counts := map[bool]int{}
	for _, d := range sampleDrives() {
		for range 20 {
			want := driveIsValid(d)
			counts[want]++
			expect(t, fmt.Sprintf("ValidDrive(%v)", d), results(impl.ValidDrive(d)), results(want))
			d = slightlyChanged(random, d)
		}
	}
	if counts[true] < 400 || counts[false] < 400 {
		t.Errorf("drives that are valid: %v", counts)
	}
}

// TestSameDrive compares drives that differ in one field alone.
func TestSameDrive(t *testing.T) {
	list := []impl.Drive{twoRings()}
	for _, name := range []string{
		"Allowance 0", "Limit 0", "an axis with as many rings as pushes", "an axis that is bent", "another ground", "another place of the shield", "strokes from 0 on",
		"rings that turn in the same way", "as many numbers as rings", "a great number", "a small number", "no grout", "grout for the last ring", "a great void", "much injected", "Shrink 100",
	} {
		for _, c := range changesOfDrive {
			if c.name == name {
				d := twoRings()
				c.change(&d)
				list = append(list, d)
			}
		}
	}
	for _, change := range []func(d *impl.Drive){
		func(d *impl.Drive) { d.Axis = axis("0,0,0,0;2:0,0;3:0,0") },
		func(d *impl.Drive) { d.Axis = axis("0,0,0,0;3:0,0;2:0,0") },
		func(d *impl.Drive) { d.Ground = ground("1801|0:5000") },
		func(d *impl.Drive) { d.Ground = ground("1800|1:5000") },
		func(d *impl.Drive) { d.Ground = ground("1800|0:5001") },
		func(d *impl.Drive) { d.Ground = ground("1800|0:5000|1:5000") },
		func(d *impl.Drive) { d.Ground = ground("1800,1800|0:5000,5000") },
		func(d *impl.Drive) { d.Machine.Shield.Yaw++ },
		func(d *impl.Drive) { d.Grouts = grouts("0:1/2/3 1:1/2/3") },
	} {
		d := twoRings()
		change(&d)
		list = append(list, d)
	}
	if len(list) != 26 {
		t.Errorf("there are %d drives", len(list))
	}
	for i, d := range list {
		for k, e := range list {
			expect(t, fmt.Sprintf("SameDrive(%v, %v)", d, e), results(impl.SameDrive(d, copyOf(e))), results(i == k))
		}
	}
}

func TestSameDriveOfManyDrives(t *testing.T) {
	random := rand.New(rand.NewSource(112))
	counts := map[bool]int{}
	for _, d := range sampleDrives() {
		e := copyOf(d)
		for range 10 {
			want := driveIsValid(d) && driveIsValid(e) && results(d) == results(e)
			counts[want]++
			expect(t, fmt.Sprintf("SameDrive(%v, %v)", d, e), results(impl.SameDrive(d, e), impl.SameDrive(e, d)), results(want, want))
			expect(t, fmt.Sprintf("SameDrive of the drive itself, %v", e), results(impl.SameDrive(e, copyOf(e))), results(driveIsValid(e)))
			e = slightlyChanged(random, d)
		}
	}
	if counts[true] < 300 || counts[false] < 500 {
		t.Errorf("drives that are the same: %v", counts)
	}
}

// edgeDeeds tells whether deeds are valid; most of them are at a limit, or just behind it.
var edgeDeeds = map[string]bool{
	"push 0 0 0": true, "push 1 0 90000": true, "push 12 12 1000000": true, "push -12 -12 1000000": true,
	"push 13 0 0": false, "push -13 0 0": false, "push 0 13 0": false, "push 0 -13 0": false, "push 0 0 -1": false, "push 0 0 1000001": false,
	"build s0": true, "build t3": true, "build s15": true, "build t0": true, "build t15": true,
	"build s16": false, "build t16": false, "build s-1": false, "build t-1": false,
	"grout 0 0 0": true, "grout 100 90 10": true, "grout 100000 100000 100": true, "grout 100000 0 0": true, "grout 0 100000 0": true, "grout 0 0 100": true,
	"grout 100001 0 0": false, "grout 0 100001 0": false, "grout 0 0 101": false, "grout -1 0 0": false, "grout 0 -1 0": false, "grout 0 0 -1": false,
}

// fieldsOf returns the fields of a deed but its kind.
func fieldsOf(x *impl.Deed) []*int64 {
	return []*int64{&x.Bend, &x.Rise, &x.Weight, &x.Ring.Kind, &x.Ring.Key, &x.Void, &x.Injected, &x.Shrink}
}

func TestValidDeed(t *testing.T) {
	for s, want := range edgeDeeds {
		x := deed(s)
		expect(t, "ValidDeed("+s+")", results(impl.ValidDeed(x), deedIsValid(x)), results(want, want))
	}
	ends := []int64{-1000001, -100001, -17, -13, -12, -1, 0, 1, 2, 12, 13, 15, 16, 100, 101, 100000, 100001, 1000000, 1000001}
	counts := map[bool]int{}
	for kind := int64(-2); kind < 6; kind++ {
		for field := range 8 {
			for _, n := range ends {
				x := impl.Deed{Kind: kind}
				*fieldsOf(&x)[field] = n
				want := deedIsValid(x)
				counts[want]++
				expect(t, fmt.Sprintf("ValidDeed(%v)", x), results(impl.ValidDeed(x)), results(want))
				// Other fields of the kind are not zero here.
				for _, s := range []string{"push 1 2 3", "build t3", "grout 4 5 6"} {
					x := deed(s)
					*fieldsOf(&x)[field] = n
					expect(t, fmt.Sprintf("ValidDeed(%v)", x), results(impl.ValidDeed(x)), results(deedIsValid(x)))
				}
			}
		}
	}
	if counts[true] < 50 || counts[false] < 500 {
		t.Errorf("deeds that are valid: %v", counts)
	}
}

// shownDrive shows what deeds change, or nothing for no drive.
func shownDrive(d impl.Drive) string {
	if results(d) == results(noDrive) {
		return ""
	}
	return fmt.Sprintf("%s|%s|%s|%v", machineText(d.Machine), tubeText(d.Built), commas(d.Balance), d.Grouts)
}

func TestDoDeed(t *testing.T) {
	for s, want := range map[string]string{
		"push 0 0 90000":                                             "0,0,0,0/0,0,0,0/1800||0|[]",
		"push 1 -2 91000":                                            "0,0,1,-2/0,0,0,0/1800||1000|[]",
		"push 0 0 0":                                                 "0,0,0,0/0,0,0,0/1800||-90000|[]",
		"push 0 0 1000000":                                           "0,0,0,0/0,0,0,0/1800||910000|[]",
		"push 0 0 90000;push 0 0 90000":                              "",
		"push 0 0 90000;build s0;push 0 0 89999":                     "0,0,0,0/0,0,0,0/1800|s0|0,-1|[]",
		"build s0":                                                   "",
		"build t3":                                                   "",
		"push 0 0 90000;build s0":                                    "0,0,0,0/0,0,0,0/300|s0|0|[]",
		"push 0 0 90000;build s9":                                    "0,0,0,0/0,0,0,0/300|s9|0|[]",
		"push 0 0 90000;build t3":                                    "0,0,0,0/0,0,4,9/300|t3|0|[]",
		"push 0 0 90000;build s0;build s2":                           "",
		straightRings(1) + ";push 0 0 90000;build s0":                "",
		straightRings(1) + ";push 0 0 90000;build s1":                "",
		straightRings(1) + ";push 0 0 90000;build s2":                "0,0,0,0/0,0,0,0/300|s0 s2|0,0|[]",
		straightRings(1) + ";push 0 0 90000;build t5":                "0,0,0,0/0,0,-4,9/300|s0 t5|0,0|[]",
		straightRings(2) + ";push 0 0 90000;build s0":                "0,0,0,0/0,0,0,0/300|s0 s2 s0|0,1,0|[]",
		straightRings(3) + ";push 0 0 90000":                         "",
		straightRings(2) + ";push 0 0 90000":                         "0,0,0,0/0,0,0,0/1800|s0 s2|0,1,0|[]",
		"grout 1 2 3":                                                "",
		"push 0 0 90000;grout 1 2 3":                                 "",
		"push 0 0 90000;build s0;grout 1 2 3":                        "0,0,0,0/0,0,0,0/300|s0|0|[{0 1 2 3}]",
		straightRings(1) + ";grout 1 2 3;grout 1 2 3":                "",
		straightRings(1) + ";push 0 0 90000;grout 1 2 3":             "0,0,0,0/0,0,0,0/1800|s0|0,0|[{0 1 2 3}]",
		straightRings(3) + ";grout 1 2 3":                            "0,0,0,0/0,0,0,0/300|s0 s2 s0|0,1,2|[{2 1 2 3}]",
		straightRings(1) + ";grout 1 2 3;push 0 0 90000;grout 4 5 6": "",
		straightRings(1) + ";grout 1 2 3;push 0 0 90000;build s2;grout 100000 0 100":                              "0,0,0,0/0,0,0,0/300|s0 s2|0,0|[{0 1 2 3} {1 100000 0 100}]",
		straightRings(1) + ";push 0 0 90000;grout 1 2 3;build s2;push 0 0 90000;build s0;grout 0 0 0":             "0,0,0,0/0,0,0,0/300|s0 s2 s0|0,0,0|[{0 1 2 3} {2 0 0 0}]",
		straightRings(1) + ";push 0 0 90000;grout 1 2 3;build s2;push 0 0 90000;build s0;grout 0 0 0;grout 0 0 0": "",
	} {
		list := deeds(s)
		last := len(list) - 1
		d, done := doneAll(straight(3, ""), list[:last])
		if done < last {
			t.Fatalf("%s cannot be done in the tests", deedText(list[done]))
		}
		next, ok := impl.DoDeed(d, list[last])
		expect(t, "DoDeed behind "+deedsText(list), results(shownDrive(next), ok), results(want, want != ""))
	}
}

// TestPushesThatAreRefused has pushes with which the gaps, the strokes or the poses are at their limits, and one beyond.
func TestPushesThatAreRefused(t *testing.T) {
	advanced := straight(3, "")
	advanced.Machine.Advance = 900
	// Such a machine could be pushed again if it did not wait for its ring.
	waiting := straight(3, "push 0 0 0")
	waiting.Machine.Advance = 300
	beside := straight(3, "")
	beside.Machine.Shield = pose("-30,0,0,0")
	for _, c := range []struct {
		name string
		d    impl.Drive
		push string
		ok   bool
	}{
		{"with strokes up to MaxStroke", advanced, "push 0 0 0", true},
		{"with strokes beyond MaxStroke", advanced, "push 1 0 0", false},
		{"behind a push", straight(3, "push 0 0 0"), "push 0 0 0", false},
		{"behind a push, with strokes that allow for it", waiting, "push 0 0 0", false},
		{"with gaps of 0", beside, "push 5 0 0", true},
		{"with a gap below 0", beside, "push 6 0 0", false},
		{"up to the greatest Side", drive("99997,0,1,0;1:0,0", oneClass, 0, 0), "push 0 0 0", true},
		{"beyond the greatest Side", drive("99998,0,1,0;1:0,0", oneClass, 0, 0), "push 0 0 0", false},
		{"of the last ring", after(straight(3, ""), straightRings(2)), "push 0 0 0", true},
		{"behind the last ring", after(straight(3, ""), straightRings(3)), "push 0 0 0", false},
	} {
		next, ok := impl.DoDeed(c.d, deed(c.push))
		want, wanted := doneOf(c.d, deed(c.push))
		expect(t, "a push "+c.name, results(ok, wanted, next), results(c.ok, c.ok, want))
	}
}

// TestRingsThatAreRefused has rings with which the strokes or the gaps are at their limits, and one beyond.
func TestRingsThatAreRefused(t *testing.T) {
	advanced := func(advance int64) impl.Drive {
		d := straight(3, "push 0 0 0")
		d.Machine.Advance = advance
		return d
	}
	beside := func(side int64) impl.Drive {
		d := after(drive("0,0,5,0;3:0,0", oneClass, 0, 0), "push 0 0 0")
		d.Machine.Shield.Side = side
		return d
	}
	for _, c := range []struct {
		name, build string
		d           impl.Drive
		ok          bool
	}{
		{"with a stroke of 0", "build t0", advanced(1520), true},
		{"with a stroke below 0", "build t0", advanced(1519), false},
		{"straight on, with little stroke", "build s0", advanced(1500), true},
		{"straight on, with less stroke", "build s0", advanced(1499), false},
		// The tube moves by 5 to the side, and the tail is at the side of the shield, less 10.
		{"with a gap of 0", "build t0", beside(-25), true},
		{"with a gap below 0", "build s3", beside(-26), false},
		{"with a gap of 0 in front of it", "build t0", beside(50), true},
		{"with a gap below 0 in front of it", "build t0", beside(51), false},
	} {
		next, ok := impl.DoDeed(c.d, deed(c.build))
		want, wanted := impl.Drive{}, false
		if driveIsValid(c.d) {
			want, wanted = doneOf(c.d, deed(c.build))
		}
		expect(t, "a ring "+c.name, results(ok, wanted, next), results(c.ok, c.ok, want))
	}
}

// TestPushesWithAllTurns compares all pushes and all rings with the steps of the machine.
func TestPushesWithAllTurns(t *testing.T) {
	counts := map[bool]int{}
	for i, d := range sampleDrives() {
		if i%12 > 0 {
			continue
		}
		for bend := int64(-12); bend <= 12; bend++ {
			for rise := int64(-12); rise <= 12; rise++ {
				x := impl.Deed{Kind: 1, Bend: bend, Rise: rise, Weight: 90000 + bend}
				want, isDone := doneOf(d, x)
				counts[isDone]++
				next, ok := impl.DoDeed(d, x)
				expect(t, deedText(x)+" in "+shownDrive(d), results(next, ok), results(want, isDone))
			}
		}
	}
	if counts[true] < 300 || counts[false] < 300 {
		t.Errorf("pushes that can be done: %v", counts)
	}
}

// TestExpectedAtTheShieldBeforeThePush has grounds with a border that the shield passes during the push, or that lies between shield and tube.
func TestExpectedAtTheShieldBeforeThePush(t *testing.T) {
	for s, want := range map[string]int64{
		// The shield is at the height 60 before the push and at 90 behind it, and the tube at 0; middles of strips are above these by 300.
		"1800,2100|0:5000,391": 99375, "1800,2100|0:5000,390": 99375, "1800,2100|0:5000,361": 99375, "1800,2100|0:5000,360": 97500, "1800,2100|0:5000,301": 97500, "1800,2100|0:5000,300": 97500,
		// The first push is through the ring 0.
		"1800,2100|0:5000,375|1:5000,-5000": 99375, "1800,2100|1:5000,375|2:5000,-5000": 99375,
	} {
		d := drive("0,0,0,30;9:0,0", s, 0, 0)
		next, one := impl.DoDeed(d, deed("push 0 0 100000"))
		expected, two := impl.ExpectedNow(d)
		expect(t, "the first push in "+s, results(next.Balance, one, expected, two), results([]int64{100000 - want}, true, want, true))
	}
	// Behind one ring, the shield is at 90, and it passes 120 in the third push; the border is known for each ring.
	d := drive("0,0,0,30;9:0,0", "1800,2100|0:5000,0|1:5000,391|2:5000,420|3:5000,0", 0, 0)
	next, done, ok := impl.DoDeeds(d, deeds("push 0 0 100000;build s0;push 0 0 100000;build s2;push 0 0 100000"))
	expect(t, "three pushes", results(next.Balance, done, ok), "[[2500 625 2500] 5 true]")
}

// TestDoDeedInManyDrives does deeds that can and that cannot be done, one after the other.
func TestDoDeedInManyDrives(t *testing.T) {
	random := rand.New(rand.NewSource(113))
	counts := map[string]int{}
	for range 600 {
		d := randomDrive(random)
		for range 40 {
			x := randomDeed(random, d)
			want, isDone := doneOf(d, x)
			counts[fmt.Sprint(x.Kind, isDone)]++
			next, ok := impl.DoDeed(d, x)
			expect(t, deedText(x)+" in "+shownDrive(d), results(next, ok), results(want, isDone))
			if isDone {
				if !impl.ValidDrive(next) || !driveIsValid(next) {
					t.Errorf("%s in %s leads to a drive that is not valid", deedText(x), shownDrive(d))
				}
				d = next
			}
		}
	}
	if len(counts) != 6 || min(counts["1 true"], counts["1 false"], counts["2 true"], counts["2 false"], counts["3 true"], counts["3 false"]) < 500 {
		t.Errorf("deeds that can be done: %v", counts)
	}
}

// TestMoreGroutsThanAllowed fills the void behind each ring.
func TestMoreGroutsThanAllowed(t *testing.T) {
	d := straight(60, "")
	for i := range 14 {
		d = after(d, fmt.Sprintf("push 0 0 90000;build s%d", i%2*2))
		next, ok := impl.DoDeed(d, deed("grout 1 2 3"))
		expect(t, fmt.Sprintf("grout behind the ring %d", i), results(ok, len(next.Grouts)), results(i < 12, (i+1)%13*max(0, min(1, 12-i))))
		if ok {
			d = next
		}
	}
	expect(t, "all grouts", results(len(d.Grouts), d.Grouts[11]), "[12 {11 1 2 3}]")
	// There is room for one more if the rings before had none.
	d.Grouts = d.Grouts[:11]
	next, ok := impl.DoDeed(d, deed("grout 4 5 6"))
	expect(t, "grout behind the last ring", results(ok, next.Grouts[11]), "[true {13 4 5 6}]")
}

func TestDoDeedRefusesWhatIsNotValid(t *testing.T) {
	for s, isValid := range edgeDeeds {
		for _, d := range []impl.Drive{straight(3, ""), straight(3, "push 0 0 0"), straight(3, straightRings(1))} {
			if !isValid {
				next, ok := impl.DoDeed(d, deed(s))
				expect(t, "DoDeed("+s+")", results(next, ok), results(noDrive, false))
			}
		}
	}
	for _, s := range []string{"push 0 0 90000", "build s0", "grout 1 2 3"} {
		for field := range 8 {
			x := deed(s)
			if *fieldsOf(&x)[field]++; !deedIsValid(x) {
				for _, d := range []impl.Drive{straight(3, ""), straight(3, "push 0 0 0"), straight(3, straightRings(1))} {
					next, ok := impl.DoDeed(d, x)
					expect(t, fmt.Sprintf("DoDeed(%v)", x), results(next, ok), results(noDrive, false))
				}
			}
		}
	}
	for _, kind := range []int64{-1, 0, 4, 5} {
		next, ok := impl.DoDeed(straight(3, ""), impl.Deed{Kind: kind})
		expect(t, "a deed of no kind", results(next, ok), results(noDrive, false))
	}
}

func TestDoDeeds(t *testing.T) {
	for s, want := range map[string]int{
		"":                                0,
		"build s0":                        0,
		"push 0 0 1":                      1,
		"push 0 0 1;push 0 0 1":           1,
		"push 0 0 1;build s0;push 0 0 1":  3,
		straightRings(2):                  4,
		straightRings(3):                  6,
		straightRings(3) + ";grout 1 2 3": 7,
		straightRings(3) + ";push 0 0 1;grout 1 2 3":                             6,
		straightRings(1) + ";build s2;grout 1 2 3;push 0 0 1;build s2":           2,
		straightRings(1) + ";grout 1 2 3;grout 1 2 3;push 0 0 1":                 3,
		straightRings(1) + ";push 0 0 1;build s1;build s2;push 0 0 1;build s0":   3,
		straightRings(1) + ";push 0 0 1;build s2;build s2;push 0 0 1;build s0":   4,
		straightRings(1) + ";push 0 0 1;build s2;push 12 12 1;push 0 0 1":        5,
		straightRings(1) + ";push 0 0 1;build s2;push 12 12 1;build s0;build s2": 6,
	} {
		list := deeds(s)
		d, n := doneAll(straight(3, ""), list)
		if n != want {
			t.Errorf("%s: %d deeds are done in the tests", s, n)
		}
		got, done, ok := impl.DoDeeds(straight(3, ""), list)
		expect(t, "DoDeeds("+s+")", results(got, done, ok), results(d, want, true))
	}
}

func TestDoDeedsUpToMaxDeeds(t *testing.T) {
	list := deeds(straightRings(31))
	for _, n := range []int{58, 59, 60, 61, 62} {
		want, done := impl.Drive{}, 0
		if n <= 60 {
			want, done = doneAll(straight(60, ""), list[:n])
		}
		d, got, ok := impl.DoDeeds(straight(60, ""), list[:n])
		expect(t, fmt.Sprintf("DoDeeds of %d deeds", n), results(d, got, ok), results(want, done, n <= 60))
	}
	// The first deed cannot be done, so that none of the others is.
	blocked := slices.Repeat(deeds("build s0"), 61)
	d, done, ok := impl.DoDeeds(straight(60, ""), blocked[:60])
	expect(t, "DoDeeds of 60 deeds that cannot be done", results(d, done, ok), results(straight(60, ""), 0, true))
	d, done, ok = impl.DoDeeds(straight(60, ""), blocked)
	expect(t, "DoDeeds of 61 deeds that cannot be done", results(d, done, ok), results(noDrive, 0, false))
}

// TestDoDeedsRefusesDeedsThatAreNotValid has one among others, even behind one that cannot be done.
func TestDoDeedsRefusesDeedsThatAreNotValid(t *testing.T) {
	for s, isValid := range edgeDeeds {
		if isValid {
			continue
		}
		for _, before := range []string{"", "push 0 0 1", "push 0 0 1;push 0 0 1;"} {
			for _, behind := range []string{"", "push 0 0 1"} {
				d, done, ok := impl.DoDeeds(straight(3, ""), deeds(strings.Join([]string{before, s, behind}, ";")))
				expect(t, "DoDeeds with "+s, results(d, done, ok), results(noDrive, 0, false))
			}
		}
	}
	d, done, ok := impl.DoDeeds(straight(3, ""), []impl.Deed{{}})
	expect(t, "DoDeeds of no deed", results(d, done, ok), results(noDrive, 0, false))
}

func TestDoDeedsOfManyDrives(t *testing.T) {
	random := rand.New(rand.NewSource(114))
	whole, broken := 0, 0
	for range 400 {
		first := randomDrive(random)
		d, list := first, []impl.Deed(nil)
		for range random.Intn(61) {
			x := randomDeed(random, d)
			if next, ok := doneOf(d, x); ok || random.Intn(40) == 0 {
				list = append(list, x)
				if ok {
					d = next
				}
			}
		}
		want, done := doneAll(first, list)
		got, n, ok := impl.DoDeeds(first, list)
		expect(t, "DoDeeds("+deedsText(list)+")", results(got, n, ok), results(want, done, true))
		if done == len(list) {
			whole++
		} else {
			broken++
		}
	}
	if whole < 50 || broken < 50 {
		t.Errorf("%d lists are done as a whole, %d are not", whole, broken)
	}
}
