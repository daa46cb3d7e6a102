package ucd_test

import (
	"math"
	"slices"
	"testing"

	"lapwing/ranges"
	"lapwing/ucd"
)

// outside are numbers that are no letters.
func outside() []int {
	return []int{math.MinInt, math.MinInt + 1, -0x110000, -2, -1, 0x110000, 0x110001, 0x1000028, math.MaxInt - 1, math.MaxInt}
}

// rows are spans as a table's, each number so much more.
func rows(l []span, more int) []ranges.Row {
	var out []ranges.Row
	for _, x := range l {
		out = append(out, ranges.Row{Lo: x.lo, Hi: x.hi, V: x.v + more})
	}
	return out
}

// spread is what spans tell of each letter, and other where they tell nothing.
func spread(l []span, other int) []int {
	out := make([]int, 0x110000)
	for r := range out {
		out[r] = other
	}
	for _, x := range l {
		for r := x.lo; r <= x.hi; r++ {
			out[r] = x.v
		}
	}
	return out
}

// asked are the calls that tell of a letter by ranges, the document's ranges, and what is told of a letter in none.
func asked() map[string]struct {
	f     func(ucd.Data, int) int
	spans []span
	other int
} {
	return map[string]struct {
		f     func(ucd.Data, int) int
		spans []span
		other int
	}{
		"Class": {ucd.Class, classSpans(), ucd.L},
		"Width": {ucd.Width, wideSpans(), 1},
		"Join":  {ucd.Join, joinSpans(), ucd.JoinU},
	}
}

func TestConstants(t *testing.T) {
	for k, c := range []int{ucd.L, ucd.R, ucd.AL, ucd.EN, ucd.ES, ucd.ET, ucd.AN, ucd.CS, ucd.NSM, ucd.BN, ucd.B, ucd.S, ucd.WS, ucd.ON,
		ucd.LRE, ucd.LRO, ucd.RLE, ucd.RLO, ucd.PDF, ucd.LRI, ucd.RLI, ucd.FSI, ucd.PDI} {
		if c != k+1 {
			t.Errorf("P2.1: the class %d is %d", k+1, c)
		}
	}
	for k, c := range []int{ucd.JoinU, ucd.JoinR, ucd.JoinD, ucd.JoinC, ucd.JoinT} {
		if c != k {
			t.Errorf("P2.1: what joins as %d is %d", k, c)
		}
	}
	for k, c := range []int{ucd.Alone, ucd.Final, ucd.Initial, ucd.Medial} {
		if c != k {
			t.Errorf("P2.3: the form %d is %d", k, c)
		}
	}
}

func TestLoad(t *testing.T) {
	d := ucd.Load()
	for name, y := range map[string]struct {
		is   ranges.Table
		want []ranges.Row
		n    int
	}{
		"Class": {d.Class, rows(classSpans(), 0), 120},
		"Wide":  {d.Wide, rows(wideSpans(), 1), 29},
		"Join":  {d.Join, rows(joinSpans(), 0), 48},
	} {
		if len(y.is.L) != y.n || !slices.Equal(y.is.L, y.want) {
			t.Errorf("P2.1: %s: %d rows: %x", name, len(y.is.L), y.is.L)
		}
	}
	if len(d.Mirror) != 27 || !slices.Equal(d.Mirror, mirrorPairs()) {
		t.Errorf("P2.1: Mirror: %x", d.Mirror)
	}
	if len(d.Brackets) != 8 || !slices.Equal(d.Brackets, bracketPairs()) {
		t.Errorf("P2.1: Brackets: %x", d.Brackets)
	}
	if len(d.Forms) != 36 || !slices.Equal(d.Forms, letterForms()) {
		t.Errorf("P2.1: Forms: %x", d.Forms)
	}
}

func TestLoadKeepsNothing(t *testing.T) {
	d := ucd.Load()
	clear(d.Class.L)
	clear(d.Wide.L)
	clear(d.Join.L)
	clear(d.Mirror)
	clear(d.Brackets)
	clear(d.Forms)
	if x := ucd.Load(); ucd.Class(x, 0) != ucd.BN || ucd.Width(x, 0x300) != 0 || ucd.Join(x, 0x300) != ucd.JoinT ||
		ucd.Mirror(x, '(') != ')' || x.Brackets[0].A != '(' || x.Forms[0].R != 0x621 {
		t.Error("P2.1: Load tells what was changed in an answer of its")
	}
}

func TestEndsOfRanges(t *testing.T) {
	d := ucd.Load()
	for name, y := range asked() {
		told := spread(y.spans, y.other)
		for _, x := range y.spans {
			for _, r := range []int{x.lo - 1, x.lo, x.hi, x.hi + 1} {
				want := y.other
				if r >= 0 {
					want = told[r]
				}
				if v := y.f(d, r); v != want {
					t.Errorf("P2.1: %s of %x: %d, not %d", name, r, v, want)
				}
			}
		}
	}
}

func TestEveryLetter(t *testing.T) {
	d := ucd.Load()
	for name, y := range asked() {
		for r, want := range spread(y.spans, y.other) {
			if v := y.f(d, r); v != want {
				t.Fatalf("P2.1: %s of %x: %d, not %d", name, r, v, want)
			}
		}
	}
}

func TestNamedByNoTable(t *testing.T) {
	d := ucd.Load()
	for _, r := range append(outside(), 'a', 'Z', 0xAA, 0xB5, 0xC0, 0xF6, 0xF8, 0x250, 0x370, 0x58F, 0x700, 0x2070, 0x2C00, 0xA4D0, 0xD800, 0xDFFF, 0xFFFE, 0x1F2FF, 0x1FFFF, 0x3FFFE, 0x10FFFF) {
		if c := ucd.Class(d, r); c != ucd.L {
			t.Errorf("P2.1: Class of %x: %d", r, c)
		}
		if w := ucd.Width(d, r); w != 1 {
			t.Errorf("P2.1: Width of %x: %d", r, w)
		}
		if j := ucd.Join(d, r); j != ucd.JoinU {
			t.Errorf("P2.1: Join of %x: %d", r, j)
		}
		if m := ucd.Mirror(d, r); m != r {
			t.Errorf("P2.2: Mirror of %x: %x", r, m)
		}
		if o, k := ucd.Bracket(d, r); o != 0 || k != 0 {
			t.Errorf("P2.2: Bracket of %x: %x, %d", r, o, k)
		}
		for which := -1; which <= 4; which++ {
			if s := ucd.Shape(d, r, which); s != r {
				t.Errorf("P2.3: Shape %d of %x: %x", which, r, s)
			}
		}
	}
}

// one is a table of a single row.
func one(lo, hi, v int) ranges.Table {
	return ranges.Table{L: []ranges.Row{{Lo: lo, Hi: hi, V: v}}}
}

func TestOtherTables(t *testing.T) {
	for name, y := range map[string]struct {
		x                      ranges.Table
		r, class, places, join int
	}{
		"no rows":               {ranges.Table{}, 5, ucd.L, 1, 0},
		"an empty list":         {ranges.Table{L: []ranges.Row{}}, 0, ucd.L, 1, 0},
		"1":                     {one(5, 9, 1), 5, 1, 0, 1},
		"2":                     {one(5, 9, 2), 9, 2, 1, 2},
		"4":                     {one(5, 9, 4), 7, 4, 3, 4},
		"ahead of it":           {one(5, 9, 4), 4, ucd.L, 1, 0},
		"behind it":             {one(5, 9, 4), 10, ucd.L, 1, 0},
		"255":                   {one(0, 0x10FFFF, 255), 0x10FFFF, 255, 254, 255},
		"V 0":                   {one(5, 9, 0), 5, ucd.L, 1, 0},
		"V below 0":             {one(5, 9, -1), 5, ucd.L, 1, -1},
		"the least V":           {one(5, 9, math.MinInt), 5, ucd.L, 1, math.MinInt},
		"the greatest V":        {one(5, 9, math.MaxInt), 5, math.MaxInt, math.MaxInt - 1, math.MaxInt},
		"below 0":               {one(-9, -1, 7), -1, 7, 6, 7},
		"above MaxRune":         {one(0x110000, math.MaxInt, 7), math.MaxInt, 7, 6, 7},
		"the first of two":      {ranges.Table{L: []ranges.Row{{Lo: 4, Hi: 5, V: 3}, {Lo: 0, Hi: 9, V: 2}}}, 5, 3, 2, 3},
		"the first has V 0":     {ranges.Table{L: []ranges.Row{{Lo: 4, Hi: 5, V: 0}, {Lo: 0, Hi: 9, V: 2}}}, 5, ucd.L, 1, 0},
		"the first is reversed": {ranges.Table{L: []ranges.Row{{Lo: 9, Hi: 0, V: 3}, {Lo: 0, Hi: 9, V: 2}}}, 5, 2, 1, 2},
	} {
		if c := ucd.Class(ucd.Data{Class: y.x}, y.r); c != y.class {
			t.Errorf("P2.1: %s: Class %d", name, c)
		}
		if w := ucd.Width(ucd.Data{Wide: y.x}, y.r); w != y.places {
			t.Errorf("P2.1: %s: Width %d", name, w)
		}
		if j := ucd.Join(ucd.Data{Join: y.x}, y.r); j != y.join {
			t.Errorf("P2.1: %s: Join %d", name, j)
		}
		// Each call has a table of its own, and asks no other one.
		rest := ucd.Data{Class: y.x, Wide: y.x}
		if j := ucd.Join(rest, y.r); j != 0 {
			t.Errorf("P2.1: %s: Join %d, without its table", name, j)
		}
	}
}

func TestEmptyData(t *testing.T) {
	for _, d := range []ucd.Data{{}, {Mirror: []ucd.Pair{}, Brackets: []ucd.Pair{}, Forms: []ucd.Form{}}} {
		for _, r := range append(outside(), 0, '(', ')', 0x300, 0x5D0, 0x628) {
			o, k := ucd.Bracket(d, r)
			if ucd.Class(d, r) != ucd.L || ucd.Width(d, r) != 1 || ucd.Join(d, r) != 0 || ucd.Mirror(d, r) != r || o != 0 || k != 0 || ucd.Shape(d, r, ucd.Medial) != r {
				t.Errorf("P2.1 to P2.3: without tables something is told of %x", r)
			}
		}
	}
}

func TestExample(t *testing.T) {
	d := ucd.Load()
	if c := ucd.Class(d, 0x5D0); c != ucd.R {
		t.Errorf("P2.1: the class of 5D0: %d", c)
	}
	if m := ucd.Mirror(d, '('); m != ')' {
		t.Errorf("P2.2: the mirror of (: %c", m)
	}
}

func TestTheTablesAreSane(t *testing.T) {
	d := ucd.Load()
	for name, x := range map[string]ranges.Table{"Class": d.Class, "Wide": d.Wide, "Join": d.Join} {
		if !ranges.Sane(x) || len(x.L) == 0 {
			t.Errorf("P2.4: %s is not Sane", name)
		}
	}
	for r := -2; r <= 0x110001; r++ {
		if m := ucd.Mirror(d, ucd.Mirror(d, r)); m != r {
			t.Fatalf("P2.4: the mirror's mirror of %x: %x", r, m)
		}
		o, k := ucd.Bracket(d, r)
		if k == 0 {
			continue
		}
		if back, other := ucd.Bracket(d, o); back != r || other != 3-k || ucd.Mirror(d, r) != o {
			t.Errorf("P2.4: the bracket %x, %d, has %x, which has %x, %d", r, k, o, back, other)
		}
	}
}

func TestFormsAreToldOnce(t *testing.T) {
	d := ucd.Load()
	letters, forms := map[int]int{}, map[int]int{}
	for _, f := range d.Forms {
		letters[f.R]++
		for k := range f.N {
			forms[f.At+k]++
		}
	}
	for _, alef := range []int{0x622, 0x623, 0x625, 0x627} {
		for _, final := range []bool{false, true} {
			x, _ := ucd.Ligature(0x644, alef, final)
			forms[x]++
		}
	}
	for _, m := range []map[int]int{letters, forms} {
		for r, n := range m {
			if n != 1 {
				t.Errorf("P2.4: %x is told %d times", r, n)
			}
		}
	}
	if len(letters) != 36 || len(forms) != 0xFEFC-0xFE80+1 {
		t.Errorf("P2.4: %d letters have %d forms", len(letters), len(forms))
	}
}
