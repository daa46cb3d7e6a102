package pen_test

import (
	"slices"
	"testing"

	"lapwing/api"
	"lapwing/params"
	"lapwing/pen"
)

// read is a text's parameters.
func read(t *testing.T, s string) [][]int {
	t.Helper()
	l, e := params.Parse(s)
	if e != api.OK {
		t.Fatal(s, e)
	}
	return l
}

// full is a pen of all that there is.
var full = api.Pen{Fg: 1<<24 + 5, Bg: 200, Flags: 511}

func TestApplyOfNothing(t *testing.T) {
	for _, p := range append(pens(), full) {
		for _, l := range [][][]int{nil, {}, {{-1}}, {{0}}, {{-1, 7}}, {{0, 4, 2}}, {{}, {-1}}, {{0}, {}}} {
			if u := pen.Apply(p, l); u != (api.Pen{}) {
				t.Errorf("P7.2: %v of %+v: %+v", l, p, u)
			}
		}
		for _, l := range [][][]int{{{}}, {nil}, {{}, nil, {}}, {{6}}, {{-2}}} {
			if u := pen.Apply(p, l); u != p {
				t.Errorf("P7.2: %v of %+v: %+v", l, p, u)
			}
		}
	}
}

// TestEachNumber asks P7.2 of each number alone, with each flag, each pair and all other sets of them set ahead, and with other numbers behind it.
func TestEachNumber(t *testing.T) {
	numbers := slices.Clone(far)
	for n := -12; n <= 130; n++ {
		numbers = append(numbers, n)
	}
	numbers = append(numbers, 255, 256, 257, 1004, 65535)
	behind := [][]int{nil, {0}, {1}, {2}, {3}, {-1}, {-2}, {21}, {256}, {far[0]}, {2, 0}, {0, 2}}
	for _, n := range numbers {
		for _, more := range behind {
			l := [][]int{slices.Concat([]int{n}, more)}
			for flags := range 512 {
				for _, p := range []api.Pen{{Flags: flags}, {Fg: 2, Bg: 1<<25 - 1, Flags: flags}} {
					if u, want := pen.Apply(p, l), applied(p, l); u != want || !pen.Sane(u) {
						t.Fatalf("P7.2: %v of %+v: %+v, not %+v", l, p, u, want)
					}
				}
			}
		}
	}
}

func TestFlagsByNumber(t *testing.T) {
	const both = pen.Under | pen.Double
	for _, y := range []struct {
		s          string
		flags, now int
	}{
		{"1", 0, pen.Bold}, {"2", 0, pen.Faint}, {"3", 0, pen.Italic}, {"4", 0, pen.Under}, {"5", 0, pen.Blink},
		{"7", 0, pen.Inverse}, {"8", 0, pen.Hidden}, {"9", 0, pen.Struck}, {"21", 0, pen.Double},
		{"1", 511, 511}, {"2", 511, 511}, {"3", 511, 511}, {"5", 511, 511}, {"7", 511, 511}, {"8", 511, 511}, {"9", 511, 511},
		{"22", 511, 508}, {"23", 511, 507}, {"24", 511, 247}, {"25", 511, 495}, {"27", 511, 479}, {"28", 511, 447}, {"29", 511, 383},
		{"22", pen.Bold, 0}, {"22", pen.Faint, 0}, {"22", pen.Bold | pen.Faint, 0},
		{"24", pen.Under, 0}, {"24", pen.Double, 0}, {"24", both, 0}, {"24", 0, 0},
		{"4", pen.Under, pen.Under}, {"4", pen.Double, pen.Under}, {"4", both, pen.Under},
		{"21", pen.Under, pen.Double}, {"21", pen.Double, pen.Double}, {"21", both, pen.Double},
		{"4:0", pen.Under, 0}, {"4:0", pen.Double, 0}, {"4:0", both, 0}, {"4:0", 0, 0},
		{"4:1", pen.Under, pen.Under}, {"4:1", pen.Double, pen.Under}, {"4:1", both, pen.Under}, {"4:1", 0, pen.Under},
		{"4:2", pen.Under, pen.Double}, {"4:2", pen.Double, pen.Double}, {"4:2", both, pen.Double}, {"4:2", 0, pen.Double},
		{"4:3", pen.Under, pen.Under}, {"4:3", pen.Double, pen.Under}, {"4:3", both, pen.Under}, {"4:3", 0, pen.Under},
		{"4:", 0, pen.Under}, {"4:", pen.Double, pen.Under}, {"4:65535", 0, pen.Under}, {"4:0:2", both, 0}, {"4:2:0", 0, pen.Double},
		{"21:0", 0, pen.Double}, {"24:2", both, 0}, {"1:0", 0, pen.Bold}, {"22:1", 3, 0},
		{"1", both, both | pen.Bold}, {"36", both, both}, {"22;23;25;27;28;29", 511, both}, {"6", both, both},
		{"4;21", 0, pen.Double}, {"21;4", 0, pen.Under}, {"4;4:0", pen.Bold, pen.Bold}, {"1;2", 0, pen.Bold | pen.Faint},
		{"6", 511, 511}, {"10", 511, 511}, {"11", 511, 511}, {"20", 511, 511}, {"26", 511, 511}, {"50", 511, 511}, {"53", 0, 0}, {"65535", 511, 511},
	} {
		p := api.Pen{Fg: 7, Bg: 9, Flags: y.flags}
		if u, want := pen.Apply(p, read(t, y.s)), (api.Pen{Fg: 7, Bg: 9, Flags: y.now}); u != want {
			t.Errorf("P7.2: %q of %+v: %+v", y.s, p, u)
		}
	}
}

func TestColoursByNumber(t *testing.T) {
	for k := range 8 {
		for n, want := range map[int]api.Pen{
			30 + k:  {Fg: k + 1, Bg: 200, Flags: 511},
			90 + k:  {Fg: k + 9, Bg: 200, Flags: 511},
			40 + k:  {Fg: 1<<24 + 5, Bg: k + 1, Flags: 511},
			100 + k: {Fg: 1<<24 + 5, Bg: k + 9, Flags: 511},
		} {
			if u := pen.Apply(full, [][]int{{n}}); u != want {
				t.Errorf("P7.2: %d: %+v", n, u)
			}
		}
	}
	if u := pen.Apply(full, [][]int{{39}}); u != (api.Pen{Bg: 200, Flags: 511}) {
		t.Errorf("P7.2: 39: %+v", u)
	}
	if u := pen.Apply(full, [][]int{{49}}); u != (api.Pen{Fg: 1<<24 + 5, Flags: 511}) {
		t.Errorf("P7.2: 49: %+v", u)
	}
	for _, n := range []int{50, 51, 89, 98, 99, 108, 109, 110, 80, 87, -30, -40} {
		if u := pen.Apply(full, [][]int{{n}}); u != full {
			t.Errorf("P7.2: %d: %+v", n, u)
		}
	}
}

func TestOneBehindTheOther(t *testing.T) {
	red := api.Pen{Fg: 2, Flags: pen.Faint}
	for s, want := range map[string]api.Pen{
		"1;31":            {Fg: 2, Flags: pen.Bold | pen.Faint},
		"0;1;31":          {Fg: 2, Flags: pen.Bold},
		"1;0":             {},
		"1;;34":           {Fg: 5},
		";":               {},
		"1;":              {},
		";1":              {Flags: pen.Bold},
		"31;32;33":        {Fg: 4, Flags: pen.Faint},
		"31;42;93;104":    {Fg: 12, Bg: 13, Flags: pen.Faint},
		"1;22;1":          {Fg: 2, Flags: pen.Bold},
		"3;4;5;23;24;25":  {Fg: 2, Flags: pen.Faint},
		"39;49;22":        {},
		"3;99;9;1004":     {Fg: 2, Flags: pen.Faint | pen.Italic | pen.Struck},
		"7;4:2;0;8;4:3":   {Flags: pen.Hidden | pen.Under},
		"38;5;1;0;48;5;1": {Bg: 2},
	} {
		if u := pen.Apply(red, read(t, s)); u != want {
			t.Errorf("P7.2: %q: %+v", s, u)
		}
	}
	if u := pen.Apply(red, [][]int{{1}, {}, {-2}, {3}, nil, {44, 9}}); u != (api.Pen{Fg: 2, Bg: 5, Flags: pen.Bold | pen.Faint | pen.Italic}) {
		t.Errorf("P7.2: parameters without a number between: %+v", u)
	}
}

// TestSeveral asks P7.2, P7.3 and P7.5 of all lists of some parameters, short ones, against the chapter written out anew.
func TestSeveral(t *testing.T) {
	some := [][]int{nil, {-1}, {1}, {2}, {4}, {4, 2}, {5}, {21}, {22}, {24}, {38}, {48, 5, 7}, {39}, {49}, {97}, {100}, {300}}
	lists(some, 4, func(l [][]int) {
		for _, p := range []api.Pen{{}, full, {Fg: 2, Flags: 10}} {
			if u, want := pen.Apply(p, l), applied(p, l); u != want || !pen.Sane(u) {
				t.Fatalf("P7.2: %v of %+v: %+v, not %+v", l, p, u, want)
			}
		}
	})
}

// TestMany asks that a list is done to its end, however long it is.
func TestMany(t *testing.T) {
	var l [][]int
	for k := range 3000 {
		l = append(l, []int{30 + k%8}, []int{48}, []int{5}, []int{k % 256}, []int{4, k % 3})
	}
	l = append(l, []int{9})
	if u := pen.Apply(full, l); u != (api.Pen{Fg: 8, Bg: 2999%256 + 1, Flags: 511 - pen.Under}) {
		t.Errorf("P7.2: %+v", u)
	}
}
