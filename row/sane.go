package row

import (
	"lapwing/api"
	"lapwing/pen"
)

// lastDir is the greatest Dir.
const lastDir = 2

// Sane: may a row be?
func Sane(r api.Row) bool {
	if len(r.Cells) != width(len(r.Cells)) || r.Dir < 0 || r.Dir > lastDir {
		return false
	}
	var had api.Pen
	for k := range r.Cells {
		c := &r.Cells[k]
		// Only where the pen changes, because every call asks for all cells, and most are of the pen ahead.
		if c.Pen != had && !pen.Sane(c.Pen) {
			return false
		}
		had = c.Pen
		if !mayBe(c) || isTorn(r.Cells, k) {
			return false
		}
	}
	return true
}

// mayBe: may a cell, whatever its pen, be in a row, whatever stands next to it?
func mayBe(c *api.Cell) bool {
	if c.R == 0 {
		return (c.W == 0 || c.W == 1) && c.M == [api.MaxMarks]int{}
	}
	if c.M[0] == 0 && c.M[1] != 0 {
		return false
	}
	return (c.W == 1 || c.W == 2) && isLetter(c.R) && isLetter(c.M[0]) && isLetter(c.M[1])
}

// isLetter: is it one, or none?
func isLetter(r int) bool { return 0 <= r && r <= api.MaxRune }
