package grid

import (
	"slices"

	"lapwing/api"
	"lapwing/row"
)

// moved is g, of which the rows from top on, below bottom, come up by n, or, of an n below 0, go down: where none comes to, a new one is.
func moved(g Grid, top, bottom, n int, p api.Pen) Grid {
	rows := slices.Clone(g.Rows)
	part := g.Rows[top:bottom]
	for k := range bottom - top {
		if from := k + n; from >= 0 && from < len(part) {
			rows[top+k] = part[from]
		} else {
			rows[top+k] = row.New(len(part[k].Cells), p)
		}
	}
	return Grid{rows}
}

// mayBe: may a grid be, and a pen?
func mayBe(g Grid, p api.Pen) bool {
	// Pens lie below row: whether one may be shows in a row that is laid by it.
	return row.Sane(row.New(1, p)) && Sane(g)
}

// isOfWidth: is a row as wide as those of a grid that has some?
func isOfWidth(g Grid, r api.Row) bool { return len(r.Cells) == len(g.Rows[0].Cells) }

// isPart: are there rows from top on, below bottom?
func isPart(g Grid, top, bottom int) bool {
	return 0 <= top && top < bottom && bottom <= len(g.Rows)
}

// within is a number brought to 0 to most.
func within(n, most int) int { return max(0, min(n, most)) }

// height is one brought to what grids may have.
func height(h int) int { return max(1, min(h, api.MaxRows)) }
