package tests

import (
	"fmt"
	"math"
	"math/rand"
	"slices"
	"strings"
	"testing"

	"loop.example/g01099/impl"
)

// drilled returns the text of a ground, or what a failure returns if it is not valid.
func drilled(g impl.Ground) string {
	if !groundIsValid(g) {
		return results(impl.Ground{}, false)
	}
	return results(groundText(g), true)
}

// shown returns what a function of grounds has returned, with the text of the ground if it succeeds.
func shown(g impl.Ground, ok bool) string {
	if !ok {
		return results(g, ok)
	}
	return results(groundText(g), ok)
}

func TestAddHole(t *testing.T) {
	random := rand.New(rand.NewSource(63))
	counts := map[bool]int{}
	for _, g := range sampleGrounds() {
		for range 12 {
			h := impl.Hole{Ring: random.Int63n(70) - 4, Tops: topsOf(g, random.Int63n(61))}
			if random.Intn(4) == 0 {
				h.Tops[random.Intn(len(h.Tops))] += random.Int63n(9) - 4
			}
			if random.Intn(9) == 0 {
				h.Tops = append(h.Tops, h.Tops[len(h.Tops)-1])
			}
			// Sorted by their rings, the holes are those of a ground if it is valid.
			want := impl.Ground{Densities: g.Densities, Holes: append(slices.Clone(g.Holes), h)}
			slices.SortFunc(want.Holes, func(a, b impl.Hole) int { return int(a.Ring - b.Ring) })
			more, ok := impl.AddHole(g, h)
			expect(t, fmt.Sprintf("AddHole(%s, %v)", groundText(g), h), shown(more, ok), drilled(want))
			counts[ok]++
			if !ok {
				continue
			}
			tops, _ := impl.TopsAt(more, h.Ring)
			expect(t, "the tops at the new hole", results(tops), results(h.Tops))
			at := slices.IndexFunc(more.Holes, func(other impl.Hole) bool { return other.Ring == h.Ring })
			less, ok := impl.DropHole(more, int64(at))
			expect(t, "DropHole of the new hole", shown(less, ok), results(groundText(g), true))
		}
	}
	if counts[true] < 500 || counts[false] < 500 {
		t.Errorf("%d holes were added, and %d were not", counts[true], counts[false])
	}
}

func TestAddHoleAtItsLimits(t *testing.T) {
	two := "1800,2100|5:5000,1000|10:5000,-1000"
	five := "1|0:1|1:2|2:3|3:2|4:1"
	for _, c := range []struct{ ground, hole, want string }{
		// In front of all holes, between two of them, and behind all of them.
		{two, "0:9,8", "1800,2100|0:9,8|5:5000,1000|10:5000,-1000"},
		{two, "4:9,8", "1800,2100|4:9,8|5:5000,1000|10:5000,-1000"},
		{two, "6:9,8", "1800,2100|5:5000,1000|6:9,8|10:5000,-1000"},
		{two, "9:9,9", "1800,2100|5:5000,1000|9:9,9|10:5000,-1000"},
		{two, "11:9,8", "1800,2100|5:5000,1000|10:5000,-1000|11:9,8"},
		{two, "60:9,8", "1800,2100|5:5000,1000|10:5000,-1000|60:9,8"},
		// At the ring of a hole, even the same one.
		{two, "5:9,8", ""},
		{two, "10:9,8", ""},
		{two, "5:5000,1000", ""},
		// What makes the ground invalid.
		{two, "-1:9,8", ""},
		{two, "61:9,8", ""},
		{two, "7:9", ""},
		{two, "7:9,8,7", ""},
		{two, "7:8,9", ""},
		{two, "7:100000,-100000", "1800,2100|5:5000,1000|7:100000,-100000|10:5000,-1000"},
		{two, "7:100001,0", ""},
		{two, "7:0,-100001", ""},
		{two, "9223372036854775807:9,8", ""},
		{two, "-9223372036854775808:9,8", ""},
		{two, "7:9223372036854775807,-9223372036854775808", ""},
		// The last of MaxHoles holes, and one more.
		{five, "5:0", five + "|5:0"},
		{five + "|5:0", "6:0", ""},
		{five + "|59:0", "60:0", ""},
		{five + "|6:0", "5:0", ""},
		// To a ground that is not valid, even one that the hole would repair.
		{"1", "0:0", ""},
		{"1|0:0|0:0", "1:0", ""},
		{"3001|0:0", "1:0", ""},
	} {
		want := results(impl.Ground{}, false)
		if c.want != "" {
			want = results(c.want, true)
		}
		more, ok := impl.AddHole(ground(c.ground), hole(c.hole))
		expect(t, fmt.Sprintf("AddHole(%s, %s)", c.ground, c.hole), shown(more, ok), want)
	}
	more, ok := impl.AddHole(ground(two), impl.Hole{Ring: 7})
	expect(t, "AddHole without tops", shown(more, ok), results(impl.Ground{}, false))
}

func TestDropHole(t *testing.T) {
	for _, g := range sampleGrounds() {
		for k := int64(-2); k < 9; k++ {
			want := results(impl.Ground{}, false)
			if len(g.Holes) > 1 && k >= 0 && k < int64(len(g.Holes)) {
				holes := slices.Delete(slices.Clone(g.Holes), int(k), int(k)+1)
				want = results(groundText(impl.Ground{Densities: g.Densities, Holes: holes}), true)
			}
			less, ok := impl.DropHole(g, k)
			expect(t, fmt.Sprintf("DropHole(%s, %d)", groundText(g), k), shown(less, ok), want)
		}
	}
}

func TestDropHoleAtItsLimits(t *testing.T) {
	three := "1,2|5:7,6|6:5,4|9:3,2"
	for _, c := range []struct {
		ground string
		k      int64
		want   string
	}{
		{three, 0, "1,2|6:5,4|9:3,2"},
		{three, 1, "1,2|5:7,6|9:3,2"},
		{three, 2, "1,2|5:7,6|6:5,4"},
		{three, 3, ""},
		{three, -1, ""},
		{three, math.MaxInt64, ""},
		{three, math.MinInt64, ""},
		{three, math.MaxUint32 + 1, ""},
		{"1|0:5|1:6", 0, "1|1:6"},
		{"1|0:5|1:6", 1, "1|0:5"},
		// The only hole, and the one too many of a ground that is not valid.
		{"1|0:5", 0, ""},
		{"1|0:5", 1, ""},
		{"1", 0, ""},
		{"1|0:1|1:2|2:3|3:2|4:1|5:0|6:0", 6, ""},
		{"1|5:0|5:0", 0, ""},
	} {
		want := results(impl.Ground{}, false)
		if c.want != "" {
			want = results(c.want, true)
		}
		less, ok := impl.DropHole(ground(c.ground), c.k)
		expect(t, fmt.Sprintf("DropHole(%s, %d)", c.ground, c.k), shown(less, ok), want)
	}
}

func TestGroundText(t *testing.T) {
	for _, g := range sampleGrounds() {
		want := groundText(g)
		text, ok := impl.GroundText(g)
		expect(t, "GroundText", results(text, ok), results(want, true))
		back, ok := impl.ReadGround(want)
		expect(t, "ReadGround("+want+")", results(back, ok), results(g, true))
	}
	for s, isValid := range edgeGrounds {
		want := ""
		if isValid {
			want = s
		}
		text, ok := impl.GroundText(ground(s))
		expect(t, "GroundText of "+s, results(text, ok), results(want, isValid))
		back, ok := impl.ReadGround(s)
		expect(t, "ReadGround("+s+")", shown(back, ok), drilled(ground(s)))
	}
}

// nearlyGrounds are texts that are not quite those of a ground.
func nearlyGrounds() []string {
	list := []string{
		"1|", "|0:5", "1||0:5", "1|0:5|", "|1|0:5", "|", "||", ":", "1|:", "1|:5", "1|0:", "1|0", "1|5", "1:0:5", "1|0|5", "1|0,5", "1|0:5:6", "1|0::5", "1|:0:5", "1,0:5",
		"1,2|0:5,", "1,2|0:,5", "1,2|0:5,,5", ",1|0:5", "1,|0:5", "1,,2|0:5,5", ",|0:5,5", "1,2|0:5;5", "1;2|0:5,5", "1,2|0:5|5", "1|2|0:5,5", "1,2|0,5,5", "1 2|0:5 5",
		"1|0:5|1", "1|0:5|1:", "1|0:5|:6", "1|0:5||1:6", "1|0:5,1:6", "1|0:5;1:6", "1|0:5 1:6", "1|0:5\n1:6", "1/0:5/1:6",
		" 1|0:5", "1|0:5 ", "1 |0:5", "1| 0:5", "1|0 :5", "1|0: 5", "1, 2|0:5,5", "1|0:5\n", "1|0:5\x00", "\t1|0:5", "1|0:5\r",
		"01|0:5", "1|00:5", "1|0:05", "+1|0:5", "1|+0:5", "1|0:+5", "1|-0:5", "1|0:-0", "1|0:--5", "1|0:-", "-|0:5", "1|-:5",
		"1.0|0:5", "1|0:5.0", "1|0:5e2", "1|0x0:5", "1|0:1_0", "a|0:5", "1|a:5", "1|0:a", "1|0:5a", "(1|0:5)", "٣|0:5", "1|0:٣", "\xff|0:5", "1|0:\xff", "1|0：5", "1¦0:5",
		"18446744073709551617|0:5", "1|18446744073709551616:5", "1|0:18446744073709551621", "1|0:-18446744073709551616",
		strings.Repeat("1,", 100000) + "1|0:5", "1" + strings.Repeat("|0:5", 100000), "1|0:" + strings.Repeat("5,", 100000) + "5", strings.Repeat("|", 100000), "1|" + strings.Repeat(":", 100000), "1|0:" + strings.Repeat("0", 100000), strings.Repeat("9", 100000) + "|0:5",
	}
	for _, g := range badGrounds() {
		list = append(list, groundText(g))
	}
	return append(list, strangeTexts()...)
}

func TestReadGroundRefusesOtherTexts(t *testing.T) {
	for _, s := range nearlyGrounds() {
		g, ok := impl.ReadGround(s)
		expect(t, fmt.Sprintf("ReadGround(%.60q)", s), results(g, ok), results(impl.Ground{}, false))
	}
}

func TestFunctionsRefuseGroundsThatAreNotValid(t *testing.T) {
	for _, g := range badGrounds() {
		tops, one := impl.TopsAt(g, 0)
		class, two := impl.ClassAt(g, 0, 0)
		face, three := impl.FaceOf(g, 0, 0)
		weight, four := impl.WeightOf(g, 0, 0)
		more, five := impl.AddHole(g, impl.Hole{Ring: 30, Tops: repeated(0, len(g.Densities))})
		less, six := impl.DropHole(g, 0)
		text, seven := impl.GroundText(g)
		got := results(impl.ValidGround(g), tops, one, class, two, face, three, weight, four, more, five, less, six, text, seven)
		none := impl.Ground{}
		want := results(false, "[]", false, 0, false, "[]", false, 0, false, none, false, none, false, "", false)
		expect(t, "the ground "+groundText(g), got, want)
	}
}
