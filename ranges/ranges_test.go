package ranges_test

import (
	"math"
	"slices"
	"testing"

	"lapwing/api"
	"lapwing/ranges"
)

const most = 4096

// rows makes rows of three numbers each: Lo, Hi, V.
func rows(n ...int) []ranges.Row {
	var l []ranges.Row
	for ; len(n) >= 3; n = n[3:] {
		l = append(l, ranges.Row{Lo: n[0], Hi: n[1], V: n[2]})
	}
	return l
}

func table(n ...int) ranges.Table { return ranges.Table{L: rows(n...)} }

// many makes n rows of one number each, with a gap behind each.
func many(n int) []ranges.Row {
	var l []ranges.Row
	for k := 0; k < n; k++ {
		l = append(l, ranges.Row{Lo: 2 * k, Hi: 2 * k, V: 1})
	}
	return l
}

// dense makes n rows without gaps, whose V takes turns.
func dense(n int) []ranges.Row {
	var l []ranges.Row
	for k := 0; k < n; k++ {
		l = append(l, ranges.Row{Lo: k, Hi: k, V: 1 + k%2})
	}
	return l
}

// mayNotBe are lists in which a row may not be by itself, or rows do not rise.
func mayNotBe() map[string][]ranges.Row {
	return map[string][]ranges.Row{
		"Lo below 0":               rows(-1, 4, 1),
		"all below 0":              rows(-5, -1, 1),
		"Hi below Lo":              rows(5, 4, 1),
		"Hi far below Lo":          rows(5, -1, 1),
		"Hi above MaxRune":         rows(0, 0x110000, 1),
		"all above MaxRune":        rows(0x110000, 0x110000, 1),
		"V 0":                      rows(0, 1, 0),
		"V below 0":                rows(0, 1, -1),
		"V 256":                    rows(0, 1, 256),
		"the same row twice":       rows(0, 4, 1, 0, 4, 1),
		"Lo is the Hi ahead":       rows(0, 4, 1, 4, 5, 2),
		"Lo is the Hi ahead, V":    rows(0, 4, 1, 4, 5, 1),
		"one within another":       rows(0, 9, 1, 4, 5, 2),
		"falling":                  rows(8, 9, 1, 0, 4, 2),
		"falling, next to":         rows(5, 9, 1, 0, 4, 1),
		"the third one falls":      rows(0, 4, 1, 8, 9, 1, 8, 9, 2),
		"the last one has no V":    rows(0, 4, 1, 8, 9, 0),
		"the last one is too high": rows(0, 4, 1, 8, 0x110000, 1),
		"the least int":            rows(math.MinInt, 4, 1),
		"the greatest int":         rows(0, math.MaxInt, 1),
		"the greatest int, twice":  rows(0, 1, 1, math.MaxInt, math.MaxInt, 1),
		"a row of nothing":         rows(0, 0, 0),
	}
}

// mayBe are lists that are tables as they stand.
func mayBe() map[string][]ranges.Row {
	return map[string][]ranges.Row{
		"nil":                    nil,
		"empty":                  {},
		"one number":             rows(5, 5, 1),
		"0":                      rows(0, 0, 1),
		"MaxRune":                rows(0x10FFFF, 0x10FFFF, 255),
		"all":                    rows(0, 0x10FFFF, 255),
		"with a gap":             rows(0, 4, 1, 6, 9, 1),
		"with a gap, another V":  rows(0, 4, 1, 6, 9, 2),
		"without a gap":          rows(0, 4, 1, 5, 9, 2),
		"there and back":         rows(0, 4, 1, 5, 5, 2, 6, 9, 1),
		"4096, with gaps":        many(most),
		"4096, without gaps":     dense(most),
		"from 0 to MaxRune, two": rows(0, 0xFFFF, 254, 0x10000, 0x10FFFF, 255),
	}
}

func TestSane(t *testing.T) {
	for name, l := range mayBe() {
		if !ranges.Sane(ranges.Table{L: l}) {
			t.Errorf("P1.1: %s: not Sane", name)
		}
	}
	for name, l := range mayNotBe() {
		if ranges.Sane(ranges.Table{L: l}) {
			t.Errorf("P1.1: %s: Sane", name)
		}
	}
	for name, l := range map[string][]ranges.Row{
		"one V without a gap":           rows(0, 4, 1, 5, 9, 1),
		"one V without a gap, later on": rows(0, 4, 1, 6, 9, 2, 10, 10, 2),
		"4097, with gaps":               many(most + 1),
		"4097, without gaps":            dense(most + 1),
	} {
		if ranges.Sane(ranges.Table{L: l}) {
			t.Errorf("P1.1: %s: Sane", name)
		}
	}
}

func TestMakeTellsTables(t *testing.T) {
	for name, l := range mayBe() {
		was := slices.Clone(l)
		x, e := ranges.Make(l)
		if e != api.OK || !slices.Equal(x.L, was) || !slices.Equal(l, was) {
			t.Errorf("P1.1: %s: %d rows, %v", name, len(x.L), e)
		}
	}
}

func TestMakeJoins(t *testing.T) {
	single := dense(most + 5)
	for k := range single {
		single[k].V = 7
	}
	for name, x := range map[string]struct{ l, want []ranges.Row }{
		"the document's example": {rows(5, 7, 2, 8, 9, 2), rows(5, 9, 2)},
		"three":                  {rows(0, 0, 1, 1, 1, 1, 2, 0x10FFFF, 1), rows(0, 0x10FFFF, 1)},
		"another V between":      {rows(0, 4, 1, 5, 5, 2, 6, 6, 1), rows(0, 4, 1, 5, 5, 2, 6, 6, 1)},
		"behind another one":     {rows(0, 4, 1, 5, 5, 2, 6, 6, 2), rows(0, 4, 1, 5, 6, 2)},
		"ahead of a gap":         {rows(0, 4, 1, 5, 5, 1, 7, 7, 1), rows(0, 5, 1, 7, 7, 1)},
		"many are one":           {single, rows(0, most+4, 7)},
		"4097 are 4096":          {append(many(most), rows(2*most-1, 2*most-1, 1)...), append(many(most-1), rows(2*most-2, 2*most-1, 1)...)},
	} {
		was := slices.Clone(x.l)
		y, e := ranges.Make(x.l)
		if e != api.OK || !slices.Equal(y.L, x.want) || !ranges.Sane(y) {
			t.Errorf("P1.1: %s: %d rows, %v", name, len(y.L), e)
		}
		if !slices.Equal(x.l, was) {
			t.Errorf("R3: %s: what was handed in is changed", name)
		}
	}
}

func TestMakeRefuses(t *testing.T) {
	refused := func(name string, l []ranges.Row, want api.Errno) {
		t.Helper()
		if x, e := ranges.Make(l); e != want || len(x.L) != 0 {
			t.Errorf("P1.1: %s: %d rows, %v", name, len(x.L), e)
		}
	}
	for name, l := range mayNotBe() {
		refused(name, l, api.ErrArg)
	}
	refused("4097, with gaps", many(most+1), api.ErrLimit)
	refused("4097, without gaps", dense(most+1), api.ErrLimit)
	refused("4098, of which two are one", append(many(most+1), rows(2*most+1, 2*most+1, 1)...), api.ErrLimit)
	refused("too many, and one that may not be", append(many(most+9), rows(0x10FFFF, 0x110000, 1)...), api.ErrArg)
	refused("too many, and one that does not rise", append(many(most+9), rows(0, 0, 1)...), api.ErrArg)
}

func TestGet(t *testing.T) {
	x := table(0, 4, 1, 5, 5, 3, 6, 9, 2, 200, 0x10FFFF, 255)
	for _, y := range [][2]int{{math.MinInt, 0}, {-1, 0}, {0, 1}, {3, 1}, {4, 1}, {5, 3}, {6, 2}, {9, 2}, {10, 0}, {199, 0}, {200, 255}, {0x10FFFF, 255}, {0x110000, 0}, {math.MaxInt, 0}} {
		if v := ranges.Get(x, y[0]); v != y[1] {
			t.Errorf("P1.2: Get of %d: %d", y[0], v)
		}
	}
	if v := ranges.Get(ranges.Table{}, 0); v != 0 {
		t.Errorf("P1.2: Get of nothing: %d", v)
	}
	full := ranges.Table{L: many(most)}
	for _, y := range [][2]int{{2*most - 2, 1}, {2*most - 3, 0}, {2*most - 1, 0}} {
		if v := ranges.Get(full, y[0]); v != y[1] {
			t.Errorf("P1.2: Get of 4096 rows, of %d: %d", y[0], v)
		}
	}
}

func TestGetOfWhatIsNotSane(t *testing.T) {
	for name, y := range map[string]struct {
		x       ranges.Table
		r, want int
	}{
		"two have it":           {table(0, 9, 1, 4, 5, 2), 4, 1},
		"the small one first":   {table(4, 5, 2, 0, 9, 1), 4, 2},
		"the small one has not": {table(4, 5, 2, 0, 9, 1), 6, 1},
		"falling":               {table(8, 9, 1, 0, 4, 2), 3, 2},
		"upside down":           {table(5, 4, 1, 0, 9, 2), 4, 2},
		"below 0":               {table(-5, -1, 1), -3, 1},
		"above MaxRune":         {table(0x110000, 0x110005, 1), 0x110005, 1},
		"the last int":          {table(0, math.MaxInt, 9), math.MaxInt, 9},
		"the first int":         {table(math.MinInt, math.MinInt, 9), math.MinInt, 9},
		"V below 0":             {table(0, 1, -7), 1, -7},
		"V above 255":           {table(0, 1, 256), 1, 256},
		"V 0 is the first":      {table(0, 1, 0, 0, 1, 3), 1, 0},
		"none":                  {table(8, 9, 1, 0, 4, 2), 5, 0},
		"the 4097th":            {ranges.Table{L: many(most + 1)}, 2 * most, 1},
	} {
		if v := ranges.Get(y.x, y.r); v != y.want {
			t.Errorf("P1.2: %s: %d", name, v)
		}
	}
}

func TestTotal(t *testing.T) {
	for _, y := range []struct {
		l    []ranges.Row
		want int
	}{{nil, 0}, {rows(0, 0, 1), 1}, {rows(0, 0x10FFFF, 1), 0x110000}, {rows(5, 7, 2, 8, 9, 3, 20, 20, 3), 6}, {many(most), most}, {dense(most), most}} {
		if n := ranges.Total(ranges.Table{L: y.l}); n != y.want {
			t.Errorf("P1.2: Total of %d rows: %d", len(y.l), n)
		}
	}
	for name, l := range mayNotBe() {
		if n := ranges.Total(ranges.Table{L: l}); n != 0 {
			t.Errorf("P1.2: %s: Total %d", name, n)
		}
	}
	if ranges.Total(ranges.Table{L: many(most + 1)}) != 0 || ranges.Total(table(0, 4, 1, 5, 9, 1)) != 0 {
		t.Error("P1.2: Total of what is not Sane")
	}
}
