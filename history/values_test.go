package history_test

import (
	"math"
	"slices"

	"lapwing/api"
	"lapwing/grid"
	"lapwing/history"
)

// far are numbers far out of range, some of which are small ones, if they are cut to fewer bits.
var far = []int{math.MinInt, math.MinInt + 1, -1 << 32, -1<<32 + 1, -1 << 16, 1 << 16, 1<<16 + 1, 1 << 32, 1<<32 + 1, 1<<32 + 2, math.MaxInt - 1, math.MaxInt}

// read are the rows that a text tells, one of each letter: rows of different widths and kinds, of '.' one that may not be.
func read(s string) []api.Row {
	var l []api.Row
	for _, letter := range []byte(s) {
		n := int(letter)
		if letter == '.' {
			bad := badRows()
			l = append(l, bad[len(l)%len(bad)])
			continue
		}
		p := api.Pen{Fg: n, Flags: n % 4}
		r := api.Row{Cells: []api.Cell{{R: n, W: 1, Pen: p}}, Wrap: n%2 == 0, Dir: n % 3, Explicit: n%4 > 1}
		for range n % 4 {
			r.Cells = append(r.Cells, api.Cell{R: 0x4E00 + n, W: 2, M: [2]int{0x301, 0}, Pen: p}, api.Cell{Pen: p})
		}
		l = append(l, r)
	}
	return l
}

// kept are rows, read, of which so many there may be.
func kept(s string, most int) history.Kept { return history.Kept{Rows: read(s), Cap: most} }

// gridOf is a grid of rows of one width, of which each tells a letter.
func gridOf(s string) grid.Grid {
	var g grid.Grid
	for y, letter := range []byte(s) {
		g.Rows = append(g.Rows, api.Row{Cells: []api.Cell{{R: int(letter), W: 1}, {R: 0x4E00, W: 2}, {}}, Wrap: y%2 == 1, Dir: y % 3})
	}
	return g
}

// shown are rows as such a text, of '?' rows without a first letter.
func shown(l []api.Row) string {
	s := ""
	for _, r := range l {
		if len(r.Cells) == 0 || r.Cells[0].R == 0 {
			s += "?"
		} else {
			s += string(rune(r.Cells[0].R))
		}
	}
	return s
}

// many are n rows of one cell, each with another letter.
func many(n int) []api.Row {
	l := make([]api.Row, n)
	for k := range l {
		l[k].Cells = []api.Cell{{R: 0x1000 + k, W: 1}}
	}
	return l
}

// letters are as many as a text of that length needs, each another one.
func letters(n int) string { return "abcdefghijkl"[:n] }

// places are those of a list, some next to it, and far ones.
func places(n int) []int {
	all := slices.Clone(far)
	for k := -2; k <= n+2; k++ {
		all = append(all, k)
	}
	return all
}

// badRows are rows that may not be, each of one fault alone.
func badRows() []api.Row {
	fine := api.Cell{R: 'q', W: 1}
	return []api.Row{
		{Cells: []api.Cell{fine, {R: 0x4E00, W: 2}}},
		{},
		{Cells: []api.Cell{fine}, Dir: 3},
		{Cells: []api.Cell{fine, {R: 'b', W: 1, Pen: api.Pen{Fg: -1}}}},
		{Cells: []api.Cell{}, Wrap: true},
		{Cells: []api.Cell{{}, fine}},
		{Cells: []api.Cell{fine}, Dir: -1},
		{Cells: []api.Cell{fine, {R: api.MaxRune + 1, W: 1}}},
		{Cells: []api.Cell{fine, {W: 1, M: [2]int{1, 0}}}},
		{Cells: slices.Repeat([]api.Cell{fine}, api.MaxCols+1)},
		{Cells: []api.Cell{{R: 'a', W: 1, Pen: api.Pen{Flags: 512}}}},
	}
}

// fault is what is kept and may not be, and why.
type fault struct {
	name string
	k    history.Kept
}

// faults are such as may not be, each of one fault alone.
func faults() []fault {
	all := []fault{
		{"a row too many", kept("abc", 2)},
		{"a row, and room for none", kept("a", 0)},
		{"a row more than ever may be", history.Kept{Rows: many(api.MaxKept + 1), Cap: api.MaxKept}},
		{"as many rows as room, that is too much", history.Kept{Rows: many(api.MaxKept + 1), Cap: api.MaxKept + 1}},
	}
	for _, c := range slices.Concat(far, []int{-2, -1, 201, 202, 255, 256, 1000}) {
		all = append(all, fault{"a room that may not be, and no rows", history.Kept{Cap: c}})
		all = append(all, fault{"a room that may not be", kept("abc", c)})
	}
	for _, r := range badRows() {
		for at := range 4 {
			k := kept("abcd", 5)
			k.Rows[at] = r
			all = append(all, fault{"a row that may not be", k})
		}
	}
	return all
}

// badGrids are grids that may not be, each of one fault alone.
func badGrids() []grid.Grid {
	all := []grid.Grid{{}, {Rows: []api.Row{}}, {Rows: many(api.MaxRows + 1)}, {Rows: read("ab")}}
	for _, r := range badRows() {
		g := gridOf("xyz")
		g.Rows[2] = r
		all = append(all, g)
	}
	return all
}

// twins are rows, sharing nothing with those.
func twins(l []api.Row) []api.Row {
	l = slices.Clone(l)
	for y := range l {
		l[y].Cells = slices.Clone(l[y].Cells)
	}
	return l
}

// sameRow: are two rows of the same cells, and all else?
func sameRow(a, b api.Row) bool {
	return slices.Equal(a.Cells, b.Cells) && a.Wrap == b.Wrap && a.Dir == b.Dir && a.Explicit == b.Explicit
}

// same: are two lists of the same rows?
func same(a, b []api.Row) bool { return slices.EqualFunc(a, b, sameRow) }

// sameKept: are two of the same rows, and room?
func sameKept(a, b history.Kept) bool { return a.Cap == b.Cap && same(a.Rows, b.Rows) }
