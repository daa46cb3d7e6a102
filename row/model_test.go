package row_test

import (
	"lapwing/api"
	"lapwing/pen"
)

// blank is a blank cell, as the chapter's Words say it.
func blank(p api.Pen) api.Cell { return api.Cell{R: 0, M: [2]int{0, 0}, W: 1, Pen: p} }

// between is a number brought to what lies between two.
func between(n, least, most int) int {
	if n < least {
		return least
	}
	if n > most {
		return most
	}
	return n
}

// mended is Mend, as the chapter's Words say it: what is neither W 2 nor W 0 stays, and of these what stands in pairs.
func mended(r api.Row) api.Row {
	var cells []api.Cell
	for k := 0; k < len(r.Cells); k++ {
		c := r.Cells[k]
		switch {
		case c.W == 2 && k+1 < len(r.Cells) && r.Cells[k+1].W == 0:
			k++
			cells = append(cells, c, r.Cells[k])
		case c.W == 2, c.W == 0:
			cells = append(cells, blank(c.Pen))
		default:
			cells = append(cells, c)
		}
	}
	r.Cells = cells
	return r
}

// mayBe is Sane, as P8.1 says it.
func mayBe(r api.Row) bool {
	if len(r.Cells) == 0 || len(r.Cells) > 4096 || r.Dir != 0 && r.Dir != 1 && r.Dir != 2 {
		return false
	}
	for _, c := range r.Cells {
		if !cellMayBe(c) {
			return false
		}
	}
	return same(mended(r), r)
}

// cellMayBe is what P8.1 says of each cell alone.
func cellMayBe(c api.Cell) bool {
	for _, n := range []int{c.R, c.M[0], c.M[1]} {
		if n < 0 || n > 1114111 {
			return false
		}
	}
	switch {
	case c.W != 0 && c.W != 1 && c.W != 2:
		return false
	case c.M[1] > 0 && c.M[0] == 0:
		return false
	case c.R == 0 && c.M[0]+c.M[1] > 0:
		return false
	case c.W == 0 && c.R > 0:
		return false
	case c.W == 2 && c.R == 0:
		return false
	}
	return pen.Sane(c.Pen)
}

// by is r of w cells, told by their places, mended.
func by(r api.Row, w int, cell func(int) api.Cell) api.Row {
	var cells []api.Cell
	for k := range w {
		cells = append(cells, cell(k))
	}
	r.Cells = cells
	return mended(r)
}

// put is Put, as P8.2 says it.
func put(r api.Row, at int, c api.Cell) api.Row {
	w := len(r.Cells)
	if !mayBe(r) || !cellMayBe(c) || c.W == 0 || at < 0 || at >= w || c.W == 2 && at == w-1 {
		return r
	}
	return by(r, w, func(k int) api.Cell {
		switch {
		case k == at:
			return c
		case k == at+1 && c.W == 2:
			return api.Cell{Pen: c.Pen}
		}
		return r.Cells[k]
	})
}

// mark is Mark, as P8.2 says it.
func mark(r api.Row, at, m int) api.Row {
	if !mayBe(r) || at < 0 || at >= len(r.Cells) || m < 1 || m > 1114111 {
		return r
	}
	if r.Cells[at].W == 0 {
		at--
	}
	return by(r, len(r.Cells), func(k int) api.Cell {
		c := r.Cells[k]
		switch {
		case k != at || c.R == 0 || c.M[1] != 0:
		case c.M[0] == 0:
			c.M[0] = m
		default:
			c.M[1] = m
		}
		return c
	})
}

// erased is Erase, as P8.3 says it.
func erased(r api.Row, from, to int, p api.Pen) api.Row {
	if !mayBe(r) || !pen.Sane(p) {
		return r
	}
	return by(r, len(r.Cells), func(k int) api.Cell {
		if k >= from && k < to {
			return blank(p)
		}
		return r.Cells[k]
	})
}

// inserted is Insert, as P8.3 says it.
func inserted(r api.Row, at, n, right int, p api.Pen) api.Row {
	if !mayBe(r) || !pen.Sane(p) || at < 0 || at >= right || right > len(r.Cells) {
		return r
	}
	n = between(n, 0, right-at)
	return by(r, len(r.Cells), func(k int) api.Cell {
		switch {
		case k < at || k >= right:
			return r.Cells[k]
		case k < at+n:
			return blank(p)
		}
		return r.Cells[k-n]
	})
}

// deleted is Delete, as P8.3 says it.
func deleted(r api.Row, at, n, right int, p api.Pen) api.Row {
	if !mayBe(r) || !pen.Sane(p) || at < 0 || at >= right || right > len(r.Cells) {
		return r
	}
	n = between(n, 0, right-at)
	return by(r, len(r.Cells), func(k int) api.Cell {
		switch {
		case k < at || k >= right:
			return r.Cells[k]
		case k >= right-n:
			return blank(p)
		}
		return r.Cells[k+n]
	})
}

// fitted is Fit, as P8.3 says it.
func fitted(r api.Row, w int, p api.Pen) api.Row {
	if !mayBe(r) || !pen.Sane(p) {
		return r
	}
	return by(r, between(w, 1, 4096), func(k int) api.Cell {
		if k < len(r.Cells) {
			return r.Cells[k]
		}
		return blank(p)
	})
}

// length is Length, as P8.4 says it.
func length(r api.Row) int {
	if !mayBe(r) {
		return 0
	}
	n := 0
	for k, c := range r.Cells {
		if c.R != 0 || c.Pen.Fg != 0 || c.Pen.Bg != 0 || c.Pen.Flags != 0 {
			n = k + 1
			for n < len(r.Cells) && r.Cells[n].W == 0 {
				n++
			}
		}
	}
	return n
}

// letters is Letters, as P8.4 says it.
func letters(r api.Row, from, to int) []int {
	var l []int
	if !mayBe(r) {
		return l
	}
	for k, c := range r.Cells {
		if k < from || k >= to || c.W == 0 {
			continue
		}
		if c.R == 0 {
			l = append(l, 0x20)
		} else {
			l = append(l, c.R)
		}
		for j := 0; j < 2 && c.M[j] != 0; j++ {
			l = append(l, c.M[j])
		}
	}
	return l
}
