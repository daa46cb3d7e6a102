package grid_test

import (
	"slices"
	"testing"

	"lapwing/api"
	"lapwing/grid"
)

// roomy is g with room behind its last row, and behind the last cell of each, in which something lies.
func roomy(g grid.Grid) grid.Grid {
	rows := append(make([]api.Row, 0, len(g.Rows)+6), twins(g.Rows)...)
	for y := range rows {
		w := len(rows[y].Cells)
		rows[y].Cells = append(rows[y].Cells, api.Cell{R: 'y', W: 2}, api.Cell{W: 1})[:w]
	}
	for y := len(rows); y < cap(rows); y++ {
		rows[:cap(rows)][y] = api.Row{Cells: []api.Cell{{R: 'z', W: 1}}, Wrap: true}
	}
	return grid.Grid{Rows: rows}
}

// full are copies of rows, and of cells, with what lies in the room behind them.
func full(l []api.Row) []api.Row {
	l = twins(l[:cap(l)])
	for y := range l {
		l[y].Cells = l[y].Cells[:cap(l[y].Cells)]
	}
	return l
}

// all are the rows of what every call makes of a grid at a place.
func all(g grid.Grid, at int) [][]api.Row {
	h := len(g.Rows)
	a, gone := grid.Up(g, at, h, 1, ground)
	b, left := grid.Up(g, 0, at, 2, ground)
	return [][]api.Row{
		a.Rows, gone, b.Rows, left,
		grid.Down(g, at, h, 1, ground).Rows,
		grid.Down(g, 0, at, 2, ground).Rows,
		grid.Set(g, at, put).Rows,
		grid.Clear(g, at, at+1, ground).Rows,
		grid.Clear(g, 0, at, ground).Rows,
	}
}

// TestWhatIsHandedIn asks R3 of a grid, with what lies behind its end, and that nothing behind an end is read.
func TestWhatIsHandedIn(t *testing.T) {
	grids := []grid.Grid{}
	for h := 1; h <= 5; h++ {
		grids = append(grids, read(letters(h)))
	}
	for _, y := range faults() {
		if len(y.g.Rows) < api.MaxRows {
			grids = append(grids, y.g)
		}
	}
	for _, g := range grids {
		had := roomy(g)
		was := full(had.Rows)
		for at := -1; at <= len(g.Rows)+1; at++ {
			want := all(twin(g), at)
			for k, is := range all(had, at) {
				if !same(is, want[k]) {
					t.Fatalf("R3: %d at %d: %q, and %q with room behind it", k, at, shown(want[k]), shown(is))
				}
			}
			if grid.Sane(had) != grid.Sane(g) {
				t.Fatalf("R3: Sane of %q, with room behind it", shown(g.Rows))
			}
			if now := full(had.Rows); !same(now, was) {
				t.Fatalf("R3: at %d: %+v is now %+v", at, was, now)
			}
		}
	}
}

// TestWhatWasAnswered asks R3 of answers: what is made of them later on leaves them as they are.
func TestWhatWasAnswered(t *testing.T) {
	for h := 1; h <= 4; h++ {
		var told, was [][]api.Row
		keep := func(l [][]api.Row) {
			for _, rows := range l {
				told = append(told, rows)
				was = append(was, twins(rows))
			}
		}
		for first := -1; first <= h; first++ {
			l := all(roomy(read(letters(h))), first)
			keep(l)
			for _, rows := range l {
				for second := -1; second <= len(rows); second++ {
					keep(all(grid.Grid{Rows: rows}, second))
				}
			}
		}
		for k := range told {
			if !same(told[k], was[k]) {
				t.Fatalf("R3: %+v is now %+v", was[k], told[k])
			}
		}
	}
}

// TestNewRowsAreApart asks that no two new rows of one answer share memory.
func TestNewRowsAreApart(t *testing.T) {
	g := read("abcd")
	a, _ := grid.Up(g, 0, 4, 3, ground)
	for name, l := range map[string][]api.Row{
		"New":   grid.New(4, 3, ground).Rows,
		"Up":    a.Rows[1:],
		"Down":  grid.Down(g, 0, 4, 3, ground).Rows[:3],
		"Clear": grid.Clear(g, 1, 4, ground).Rows[1:],
	} {
		for y := range l {
			others := twins(slices.Delete(slices.Clone(l), y, y+1))
			l[y].Cells[0].R = 'q'
			if now := slices.Delete(slices.Clone(l), y, y+1); !same(now, others) {
				t.Errorf("R3: %s: a letter in row %d: %q", name, y, shown(l))
			}
		}
	}
}

// TestGoneIsApart asks that the list of what is gone shares nothing with that of what stays, nor with what was handed in.
func TestGoneIsApart(t *testing.T) {
	g := read("abcd")
	u, gone := grid.Up(g, 0, 4, 2, ground)
	for k := range cap(gone) {
		gone[:cap(gone)][k] = put
	}
	for k := range u.Rows[:cap(u.Rows)] {
		u.Rows[:cap(u.Rows)][k].Dir = 1
	}
	if !same(g.Rows, read("abcd").Rows) || shown(gone[:2]) != "xx" || gone[0].Dir != put.Dir {
		t.Errorf("R3: %q", shown(g.Rows))
	}
}
