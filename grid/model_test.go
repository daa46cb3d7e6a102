package grid_test

import (
	"lapwing/api"
	"lapwing/grid"
	"lapwing/row"
)

// blank is a new row, as chapter 8 says it.
func blank(w int, p api.Pen) api.Row {
	r := api.Row{}
	for range w {
		r.Cells = append(r.Cells, api.Cell{W: 1, Pen: p})
	}
	return r
}

// mayBe is Sane, as P9.1 says it.
func mayBe(g grid.Grid) bool {
	if len(g.Rows) < 1 || len(g.Rows) > 1000 {
		return false
	}
	widths := map[int]int{}
	for _, r := range g.Rows {
		if !row.Sane(r) {
			return false
		}
		widths[len(r.Cells)]++
	}
	return len(widths) == 1
}

// penMayBe asks a row that has a cell by that pen.
func penMayBe(p api.Pen) bool { return row.Sane(blank(1, p)) }

// brought is a number brought to what lies between two.
func brought(n, least, most int) int {
	if n < least {
		return least
	}
	if n > most {
		return most
	}
	return n
}

// up is Up, as P9.2 says it: rows are taken off at the beginning, and new ones laid on at the end.
func up(g grid.Grid, top, bottom, n int, p api.Pen) (grid.Grid, []api.Row) {
	if !mayBe(g) || !penMayBe(p) || top < 0 || top >= bottom || bottom > len(g.Rows) {
		return g, nil
	}
	var gone []api.Row
	part := append([]api.Row{}, g.Rows[top:bottom]...)
	for range brought(n, 0, bottom-top) {
		gone = append(gone, part[0])
		part = append(part[1:], blank(len(g.Rows[0].Cells), p))
	}
	return between(g, top, part), gone
}

// down is Down, as P9.2 says it: rows are taken off at the end, and new ones laid on at the beginning.
func down(g grid.Grid, top, bottom, n int, p api.Pen) grid.Grid {
	if !mayBe(g) || !penMayBe(p) || top < 0 || top >= bottom || bottom > len(g.Rows) {
		return g
	}
	part := append([]api.Row{}, g.Rows[top:bottom]...)
	for range brought(n, 0, bottom-top) {
		part = append([]api.Row{blank(len(g.Rows[0].Cells), p)}, part[:len(part)-1]...)
	}
	return between(g, top, part)
}

// between is g with other rows from top on.
func between(g grid.Grid, top int, part []api.Row) grid.Grid {
	var u grid.Grid
	u.Rows = append(u.Rows, g.Rows[:top]...)
	u.Rows = append(u.Rows, part...)
	u.Rows = append(u.Rows, g.Rows[top+len(part):]...)
	return u
}

// set is Set, as P9.3 says it.
func set(g grid.Grid, y int, r api.Row) grid.Grid {
	if !mayBe(g) || y < 0 || y >= len(g.Rows) || !row.Sane(r) || len(r.Cells) != len(g.Rows[0].Cells) {
		return g
	}
	return between(g, y, []api.Row{r})
}

// cleared is Clear, as P9.3 says it.
func cleared(g grid.Grid, from, to int, p api.Pen) grid.Grid {
	if !mayBe(g) || !penMayBe(p) {
		return g
	}
	var u grid.Grid
	for y, r := range g.Rows {
		if y >= from && y < to {
			r = blank(len(r.Cells), p)
		}
		u.Rows = append(u.Rows, r)
	}
	return u
}
