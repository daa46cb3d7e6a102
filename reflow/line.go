package reflow

import (
	"slices"

	"lapwing/api"
	"lapwing/row"
)

// height is how many rows the first line of l has.
func height(l []api.Row) int {
	for y, r := range l {
		if !r.Wrap {
			return y + 1
		}
	}
	return len(l)
}

// room is how many places the row y of l has room for.
func room(l []api.Row, y int) int {
	cells := l[y].Cells
	if l[y].Wrap && isBlank(cells[len(cells)-1]) && y+1 < len(l) && l[y+1].Cells[0].W == 2 {
		return len(cells) - 1
	}
	return len(cells)
}

// roomAhead is what all rows ahead of y have room for.
func roomAhead(l []api.Row, y int) int {
	n := 0
	for k := range y {
		n += room(l, k)
	}
	return n
}

// joined is the line that all rows of l are of.
func joined(l []api.Row) Line {
	cells := make([]api.Cell, 0, roomAhead(l, len(l)))
	for y, r := range l {
		for _, c := range r.Cells[:room(l, y)] {
			if c.W != 0 {
				cells = append(cells, c)
			}
		}
	}
	return Line{trimmed(cells), l[0].Dir, l[0].Explicit}
}

// trimmed are cells without blank ones at the end.
func trimmed(cells []api.Cell) []api.Cell {
	n := len(cells)
	for n > 0 && isBlank(cells[n-1]) {
		n--
	}
	// A copy, because most rows are blank for the most part, and no line should keep what is cut off.
	return slices.Clone(cells[:n])
}

// isBlank: is a cell blank by no pen?
func isBlank(c api.Cell) bool { return c == row.Blank(api.Pen{}) }
