package grid_test

import (
	"math"
	"slices"

	"lapwing/api"
	"lapwing/grid"
	"lapwing/row"
)

// far are numbers far out of range, some of which are small ones, if they are cut to fewer bits.
var far = []int{math.MinInt, math.MinInt + 1, -1 << 32, -1<<32 + 1, -1 << 16, 1 << 16, 1<<16 + 1, 1 << 32, 1<<32 + 1, 1<<32 + 2, math.MaxInt - 1, math.MaxInt}

// ground is the pen by which the tests lay new rows, shown as '_'.
var ground = api.Pen{Fg: 200, Bg: 1<<24 + 5, Flags: 9}

// goodPens and badPens are some that may be, and some that may not be.
var (
	goodPens = []api.Pen{{}, ground, {Fg: 256}, {Bg: 1 << 24}, {Fg: 1<<25 - 1, Bg: 256, Flags: 511}}
	badPens  = []api.Pen{{Fg: -1}, {Fg: 257}, {Bg: 257}, {Bg: 1 << 25}, {Bg: -1}, {Flags: 512}, {Flags: -1}, {Fg: math.MinInt}, {Flags: math.MaxInt}}
)

// read is the grid that a text tells, three places wide: each row a letter that stands in front, or '.', a row without one; the pen of each tells its place, what else a row has differs from one to the next.
func read(s string) grid.Grid {
	var g grid.Grid
	for y, letter := range []byte(s) {
		p := api.Pen{Fg: y + 1}
		r := api.Row{Cells: []api.Cell{{R: int(letter), W: 1, Pen: p}, {R: 0x4E00 + y, W: 2, M: [2]int{0x301, 0}, Pen: p}, {Pen: p}}}
		if letter == '.' {
			r.Cells[0].R = 0
		}
		r.Wrap, r.Dir, r.Explicit = y%2 == 0, y%3, y%4 > 1
		g.Rows = append(g.Rows, r)
	}
	return g
}

// shown are rows as such a text: '_' what is new by ground, '-' what is new by Pen{}, '?' what else has no letter.
func shown(l []api.Row) string {
	s := ""
	for _, r := range l {
		switch {
		case sameRow(r, blank(len(r.Cells), ground)):
			s += "_"
		case sameRow(r, blank(len(r.Cells), api.Pen{})):
			s += "-"
		case len(r.Cells) == 0 || r.Cells[0].R == 0:
			s += "?"
		default:
			s += string(rune(r.Cells[0].R))
		}
	}
	return s
}

// letters are as many as a text of that length needs, each another one.
func letters(n int) string { return "abcdefgh"[:n] }

// places are those of a grid, some next to it, and far ones.
func places(h int) []int {
	all := slices.Clone(far)
	for k := -2; k <= h+2; k++ {
		all = append(all, k)
	}
	return all
}

// fault is a grid that may not be, and why.
type fault struct {
	name string
	g    grid.Grid
}

// faults are grids that may not be, each of one fault alone.
func faults() []fault {
	all := []fault{
		{"no rows", grid.Grid{}},
		{"an empty list of rows", grid.Grid{Rows: []api.Row{}}},
		{"a row too many", grid.Grid{Rows: many(api.MaxRows+1, 3)}},
		{"rows without cells", grid.Grid{Rows: make([]api.Row, 3)}},
		{"rows of too many cells", grid.Grid{Rows: many(2, api.MaxCols+1)}},
	}
	for _, r := range badRows() {
		for at := range 4 {
			g := read("abcd")
			g.Rows[at] = r
			all = append(all, fault{"a row that may not be", g})
		}
	}
	for _, w := range []int{0, 1, 2, 4, 5, api.MaxCols} {
		for at := range 4 {
			g := read("abcd")
			g.Rows[at] = blank(w, ground)
			all = append(all, fault{"a row of another width", g})
		}
	}
	return all
}

// badRows are rows, three places wide, that may not be, each of one fault alone.
func badRows() []api.Row {
	all := []api.Row{
		{Cells: []api.Cell{{R: 'a', W: 1}, {R: 'b', W: 1}, {R: 0x4E00, W: 2}}},
		{Cells: []api.Cell{{}, {R: 'b', W: 1}, {W: 1}}},
		{Cells: []api.Cell{{R: 'a', W: 3}, {W: 1}, {W: 1}}},
		{Cells: []api.Cell{{W: 1}, {R: -1, W: 1}, {W: 1}}},
		{Cells: []api.Cell{{W: 1}, {W: 1}, {R: api.MaxRune + 1, W: 1}}},
		{Cells: []api.Cell{{W: 1}, {W: 1, M: [2]int{1, 0}}, {W: 1}}},
		{Cells: []api.Cell{{W: 1}, {W: 1}, {W: 1}}, Dir: 3},
		{Cells: []api.Cell{{W: 1}, {W: 1}, {W: 1}}, Dir: -1},
	}
	for _, p := range badPens {
		all = append(all, blank(3, p), api.Row{Cells: []api.Cell{{W: 1}, {W: 1}, {W: 1, Pen: p}}})
	}
	return all
}

// many are h rows of w letters.
func many(h, w int) []api.Row {
	l := make([]api.Row, h)
	for y := range l {
		l[y] = blank(w, ground)
		for x := range l[y].Cells {
			l[y].Cells[x].R = 'a'
		}
	}
	return l
}

// twin is g, sharing nothing with it.
func twin(g grid.Grid) grid.Grid { return grid.Grid{Rows: twins(g.Rows)} }

// twins are rows, sharing nothing with those.
func twins(l []api.Row) []api.Row {
	l = slices.Clone(l)
	for y := range l {
		l[y].Cells = slices.Clone(l[y].Cells)
	}
	return l
}

// sameRow: are two rows of the same cells, and all else?
func sameRow(a, b api.Row) bool {
	return slices.Equal(a.Cells, b.Cells) && a.Wrap == b.Wrap && a.Dir == b.Dir && a.Explicit == b.Explicit
}

// same: are two lists of the same rows?
func same(a, b []api.Row) bool { return slices.EqualFunc(a, b, sameRow) }

// isSane: is a grid one of h rows of w cells, and is it told so?
func isSane(g grid.Grid, h, w int) bool {
	gotH, gotW := grid.Size(g)
	return grid.Sane(g) && gotH == h && gotW == w && len(g.Rows) == h && row.Sane(g.Rows[0]) && len(g.Rows[0].Cells) == w
}
