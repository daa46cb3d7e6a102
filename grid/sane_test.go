package grid_test

import (
	"slices"
	"testing"

	"lapwing/api"
	"lapwing/grid"
	"lapwing/row"
)

func TestNew(t *testing.T) {
	for _, y := range []struct{ h, w, wantH, wantW int }{
		{1, 1, 1, 1}, {24, 80, 24, 80}, {3, 2, 3, 2}, {0, 0, 1, 1}, {-1, 5, 1, 5}, {5, -1, 5, 1}, {0, 7, 1, 7}, {7, 0, 7, 1},
		{999, 2, 999, 2}, {1000, 2, 1000, 2}, {1001, 2, 1000, 2}, {2, 4095, 2, 4095}, {2, 4096, 2, 4096}, {2, 4097, 2, 4096},
		{far[0], far[0], 1, 1}, {-1<<32 + 1, -1<<32 + 1, 1, 1}, {1<<32 + 1, 1, 1000, 1}, {1, 1<<32 + 1, 1, 4096},
		{far[len(far)-1], far[0], 1000, 1}, {far[0], far[len(far)-1], 1, 4096}, {4096, 1000, 1000, 1000},
	} {
		for _, p := range slices.Concat(goodPens, badPens) {
			g := grid.New(y.h, y.w, p)
			if len(g.Rows) != y.wantH {
				t.Fatalf("P9.1: New(%d, %d, %+v): %d rows, not %d", y.h, y.w, p, len(g.Rows), y.wantH)
			}
			want := blank(y.wantW, p)
			for k, r := range g.Rows {
				if !sameRow(r, want) {
					t.Fatalf("P9.1: New(%d, %d, %+v): the row %d is %.300v", y.h, y.w, p, k, r)
				}
			}
			if may := penMayBe(p); grid.Sane(g) != may || may && !isSane(g, y.wantH, y.wantW) {
				t.Errorf("P9.1: New(%d, %d, %+v): Sane is %v", y.h, y.w, p, grid.Sane(g))
			}
		}
	}
}

func TestNewAtItsGreatest(t *testing.T) {
	g := grid.New(far[len(far)-1], far[len(far)-1], ground)
	if !isSane(g, api.MaxRows, api.MaxCols) || !sameRow(g.Rows[api.MaxRows-1], blank(api.MaxCols, ground)) {
		t.Errorf("P9.1: %d rows", len(g.Rows))
	}
	if u, gone := grid.Up(g, 0, api.MaxRows, 999, api.Pen{}); !isSane(u, api.MaxRows, api.MaxCols) || len(gone) != 999 || shown(u.Rows[:2]) != "_-" {
		t.Error("P9.2: of 1000 rows, 999 are gone")
	}
}

func TestSaneAndSize(t *testing.T) {
	for h := 1; h <= 8; h++ {
		for _, g := range []grid.Grid{read(letters(h)), {Rows: many(h, 1)}, {Rows: many(h, 4096)}} {
			if !isSane(g, h, len(g.Rows[0].Cells)) {
				t.Errorf("P9.1: %d rows of %d: Sane is %v", h, len(g.Rows[0].Cells), grid.Sane(g))
			}
		}
	}
	for _, h := range []int{999, 1000} {
		if !isSane(grid.Grid{Rows: many(h, 2)}, h, 2) {
			t.Errorf("P9.1: %d rows", h)
		}
	}
	for _, y := range faults() {
		h, w := grid.Size(y.g)
		if grid.Sane(y.g) || h != 0 || w != 0 {
			t.Errorf("P9.1: %s: Sane is %v, Size %d, %d of %.300v", y.name, grid.Sane(y.g), h, w, y.g)
		}
	}
}

// TestSaneOfLists asks P9.1 of all short lists of rows, some of which may not be, against the chapter written out anew.
func TestSaneOfLists(t *testing.T) {
	some := slices.Concat(badRows()[:3], read("ab").Rows, []api.Row{{}, blank(1, ground), blank(2, ground), blank(3, badPens[0])})
	var ask func([]api.Row)
	ask = func(l []api.Row) {
		g := grid.Grid{Rows: l}
		want := mayBe(g)
		if h, w := grid.Size(g); grid.Sane(g) != want || want != (h == len(l) && h > 0 && w == len(l[0].Cells)) || !want && h+w > 0 {
			t.Fatalf("P9.1: Sane is %v, Size %d, %d of %+v", !want, h, w, g)
		}
		if len(l) == 4 {
			return
		}
		for _, r := range some {
			ask(append(slices.Clip(l), r))
		}
	}
	ask(nil)
}

// TestWhatIsNotSane asks for the grid itself, and nothing, whatever is done to one that may not be.
func TestWhatIsNotSane(t *testing.T) {
	for _, y := range faults() {
		h := len(y.g.Rows)
		for _, at := range []int{-1, 0, 1, 3, 4, h, far[0], far[len(far)-1]} {
			u, gone := grid.Up(y.g, at, h, 1, ground)
			v, left := grid.Up(y.g, 0, at, at, ground)
			if len(gone)+len(left) != 0 {
				t.Errorf("P9.1: %s: Up at %d tells %d, %d rows", y.name, at, len(gone), len(left))
			}
			for name, is := range map[string]grid.Grid{
				"Up from":     u,
				"Up below":    v,
				"Down from":   grid.Down(y.g, at, h, 1, ground),
				"Down below":  grid.Down(y.g, 0, at, at, ground),
				"Set":         grid.Set(y.g, at, blank(3, ground)),
				"Set of one":  grid.Set(y.g, at, blank(1, ground)),
				"Clear from":  grid.Clear(y.g, at, h, ground),
				"Clear below": grid.Clear(y.g, 0, at, ground),
			} {
				if !same(is.Rows, y.g.Rows) {
					t.Errorf("P9.1: %s: %s %d: %.300v", y.name, name, at, is)
				}
			}
		}
	}
}

// TestSetMendsNothing asks for a grid of one bad row, which a good one in its place would make Sane.
func TestSetMendsNothing(t *testing.T) {
	for at := range 3 {
		g := read("abc")
		g.Rows[at] = row.New(4, ground)
		if u := grid.Set(g, at, row.New(3, ground)); !same(u.Rows, g.Rows) {
			t.Errorf("P9.1: Set at %d: %q", at, shown(u.Rows))
		}
		if u := grid.Clear(g, at, at+1, ground); !same(u.Rows, g.Rows) {
			t.Errorf("P9.1: Clear at %d: %q", at, shown(u.Rows))
		}
	}
}

// TestPensThatMayNotBe asks P9.1 of each pen, also where nothing would be laid by it.
func TestPensThatMayNotBe(t *testing.T) {
	g := read("abcd")
	for _, p := range badPens {
		for n := -1; n <= 5; n++ {
			u, gone := grid.Up(g, 1, 3, n, p)
			if !same(u.Rows, g.Rows) || len(gone) != 0 {
				t.Errorf("P9.1: Up by %d, %+v: %q, %q gone", n, p, shown(u.Rows), shown(gone))
			}
			if u := grid.Down(g, 1, 3, n, p); !same(u.Rows, g.Rows) {
				t.Errorf("P9.1: Down by %d, %+v: %q", n, p, shown(u.Rows))
			}
			if u := grid.Clear(g, 0, n, p); !same(u.Rows, g.Rows) {
				t.Errorf("P9.1: Clear below %d, %+v: %q", n, p, shown(u.Rows))
			}
		}
	}
	for _, p := range goodPens {
		u, gone := grid.Up(g, 1, 3, 1, p)
		d, c := grid.Down(g, 1, 3, 1, p), grid.Clear(g, 1, 3, p)
		if !sameRow(u.Rows[2], blank(3, p)) || shown(gone) != "b" || !sameRow(d.Rows[1], blank(3, p)) || !sameRow(c.Rows[2], blank(3, p)) {
			t.Errorf("P9.1: %+v: %+v, %+v, %+v", p, u, d, c)
		}
	}
}
