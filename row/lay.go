package row

import "lapwing/api"

// laid is r of other cells: those of parts, one behind the other, mended.
func laid(r api.Row, parts ...[]api.Cell) api.Row {
	w := 0
	for _, part := range parts {
		w += len(part)
	}
	cells := make([]api.Cell, w)
	at := 0
	for _, part := range parts {
		at += copy(cells[at:], part)
	}
	mend(cells)
	r.Cells = cells
	return r
}

// mend mends cells where they lie.
func mend(cells []api.Cell) {
	for k := range cells {
		if isTorn(cells, k) {
			cells[k] = Blank(cells[k].Pen)
		}
	}
}

// isTorn: is the cell at k a half of a wide one without the other half?
func isTorn(cells []api.Cell, k int) bool {
	switch cells[k].W {
	case 2:
		return k == len(cells)-1 || cells[k+1].W != 0
	case 0:
		return k == 0 || cells[k-1].W != 2
	}
	return false
}

// blanks are n blank cells.
func blanks(n int, p api.Pen) []api.Cell {
	cells := make([]api.Cell, n)
	for k := range cells {
		cells[k] = Blank(p)
	}
	return cells
}

// whole is a cell with what has to stand behind it.
func whole(c api.Cell) []api.Cell {
	if c.W == 2 {
		return []api.Cell{c, {Pen: c.Pen}}
	}
	return []api.Cell{c}
}

// marked is a cell with a mark more, if it may have one.
func marked(c api.Cell, m int) (api.Cell, bool) {
	for k, had := range c.M {
		if c.R != 0 && had == 0 {
			c.M[k] = m
			return c, true
		}
	}
	return c, false
}

// withLetters is l with those of a cell behind it: its own one, and its marks.
func withLetters(l []int, c api.Cell) []int {
	if c.R == 0 {
		c.R = space
	}
	l = append(l, c.R)
	for _, m := range c.M {
		if m != 0 {
			l = append(l, m)
		}
	}
	return l
}

// isPart: are there cells from at on, below right?
func isPart(r api.Row, at, right int) bool {
	return 0 <= at && at < right && right <= len(r.Cells)
}

// within is a place brought to 0 to the width.
func within(r api.Row, at int) int { return max(0, min(at, len(r.Cells))) }

// width is one brought to what rows may have.
func width(w int) int { return max(1, min(w, api.MaxCols)) }
