package reflow

import (
	"lapwing/api"
	"lapwing/row"
)

// laid are cells in as many rows of w as they need.
func laid(left []api.Cell, w int) [][]api.Cell {
	var rows [][]api.Cell
nextRow:
	for {
		cells := row.New(w, api.Pen{}).Cells
		rows = append(rows, cells)
		at := 0
		for k, c := range left {
			if c.W > len(cells) {
				// It would begin the next row for ever: no row has room for it.
				continue
			}
			if at+c.W > len(cells) {
				left = left[k:]
				continue nextRow
			}
			at += copy(cells[at:], whole(c))
		}
		return rows
	}
}

// placed is which of a line's rows has room for a place, and where it is there.
func placed(l []api.Row, left int) (int, int) {
	last := len(l) - 1
	for y := range last {
		n := room(l, y)
		if left < n {
			return y, left
		}
		left -= n
	}
	return last, min(left, len(l[last].Cells)-1)
}

// mayBe: may a cell be in a line? (A half may not: no row is of a half alone.)
func mayBe(c api.Cell) bool { return row.Sane(api.Row{Cells: whole(c)}) }

// whole is a cell with what has to stand behind it.
func whole(c api.Cell) []api.Cell {
	if c.W == 2 {
		return []api.Cell{c, {Pen: c.Pen}}
	}
	return []api.Cell{c}
}

// all: is each of l so?
func all[T any](l []T, is func(T) bool) bool {
	for _, x := range l {
		if !is(x) {
			return false
		}
	}
	return true
}
