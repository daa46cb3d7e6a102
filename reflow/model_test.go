package reflow_test

import (
	"lapwing/api"
	"lapwing/pen"
	"lapwing/reflow"
	"lapwing/row"
)

// roomFor is how many places a row has room for, as the chapter's Words say it.
func roomFor(l []api.Row, y int) int {
	places := len(l[y].Cells)
	isLeftOver := l[y].Wrap && l[y].Cells[places-1] == api.Cell{R: 0, M: [2]int{0, 0}, W: 1, Pen: api.Pen{}}
	if y < len(l)-1 && l[y+1].Cells[0].W == 2 && isLeftOver {
		places--
	}
	return places
}

// areRows: is each Sane?
func areRows(l []api.Row) bool {
	for _, r := range l {
		if !row.Sane(r) {
			return false
		}
	}
	return true
}

// mayBe is Sane, as P11.1 says it: what P8.1 says of a cell is said anew.
func mayBe(x reflow.Line) bool {
	if x.Dir != 0 && x.Dir != 1 && x.Dir != 2 {
		return false
	}
	for _, c := range x.Cells {
		for _, n := range []int{c.R, c.M[0], c.M[1]} {
			if n < 0 || n > 0x10FFFF {
				return false
			}
		}
		switch {
		case c.W != 1 && c.W != 2:
			return false
		case c.M[1] > 0 && c.M[0] == 0:
			return false
		case c.R == 0 && (c.M[0] > 0 || c.W == 2):
			return false
		case !pen.Sane(c.Pen):
			return false
		}
	}
	return true
}

// join is Join, as P11.1 says it: row by row, each cell of them.
func join(l []api.Row) []reflow.Line {
	if !areRows(l) {
		return nil
	}
	var all []reflow.Line
	goesOn := false
	for y, r := range l {
		if !goesOn {
			all = append(all, reflow.Line{Dir: r.Dir, Explicit: r.Explicit})
		}
		x := &all[len(all)-1]
		for k, c := range r.Cells {
			if k < roomFor(l, y) && c.W > 0 {
				x.Cells = append(x.Cells, c)
			}
		}
		goesOn = r.Wrap
	}
	for k := range all {
		end := 0
		for n, c := range all[k].Cells {
			if c.R != 0 || c.Pen != (api.Pen{}) {
				end = n + 1
			}
		}
		all[k].Cells = all[k].Cells[:end]
	}
	return all
}

// split is Split, as P11.2 says it: cell by cell, a new row as soon as one has no room.
func split(x reflow.Line, w int) []api.Row {
	if !mayBe(x) {
		return nil
	}
	if w < 1 {
		w = 1
	}
	if w > 4096 {
		w = 4096
	}
	var l []api.Row
	var cells []api.Cell
	end := func(wrap bool) {
		for len(cells) < w {
			cells = append(cells, api.Cell{W: 1})
		}
		l = append(l, api.Row{Cells: cells, Wrap: wrap, Dir: x.Dir, Explicit: x.Explicit})
		cells = nil
	}
	for _, c := range x.Cells {
		if w == 1 && c.W == 2 {
			continue
		}
		if w-len(cells) < c.W {
			end(true)
		}
		cells = append(cells, c)
		if c.W == 2 {
			cells = append(cells, api.Cell{Pen: c.Pen})
		}
	}
	end(false)
	return l
}

// spread is Spread, as P11.2 says it.
func spread(l []reflow.Line, w int) []api.Row {
	var rows []api.Row
	for k := range l {
		rows = append(rows, split(l[k], w)...)
	}
	return rows
}

// find is Find, as P11.3 says it: row by row, and anew behind one that doesn't wrap.
func find(l []api.Row, y, at int) (reflow.Place, bool) {
	if !areRows(l) || y < 0 || y > len(l)-1 || at < 0 || at > len(l[y].Cells)-1 {
		return reflow.Place{}, false
	}
	p := reflow.Place{}
	for k := 0; k < y; k++ {
		p.At += roomFor(l, k)
		if !l[k].Wrap {
			p = reflow.Place{Line: p.Line + 1}
		}
	}
	p.At += at
	return p, true
}

// where is Where, as P11.3 says it: out of a list of all places that the line's rows have room for.
func where(l []reflow.Line, w int, p reflow.Place) (int, int, bool) {
	for _, x := range l {
		if !mayBe(x) {
			return 0, 0, false
		}
	}
	if p.Line < 0 || p.Line > len(l)-1 || p.At < 0 {
		return 0, 0, false
	}
	ahead := len(spread(l[:p.Line], w))
	var all [][2]int
	rows := split(l[p.Line], w)
	for y := range rows {
		for at := range roomFor(rows, y) {
			all = append(all, [2]int{ahead + y, at})
		}
	}
	if p.At >= len(all) {
		return all[len(all)-1][0], all[len(all)-1][1], true
	}
	return all[p.At][0], all[p.At][1], true
}

// reflowed is Reflow, as P11.4 says it.
func reflowed(l []api.Row, w, y, at int) ([]api.Row, int, int) {
	p, ok := find(l, y, at)
	if !ok {
		return l, y, at
	}
	toY, toAt, _ := where(join(l), w, p)
	return spread(join(l), w), toY, toAt
}
