package grid_test

import (
	"slices"
	"testing"

	"lapwing/api"
	"lapwing/grid"
)

// put is a row, three places wide, that the tests lay, shown as 'x'.
var put = api.Row{Cells: []api.Cell{{R: 'x', W: 1, M: [2]int{0x300, 0x301}}, {W: 1, Pen: ground}, {R: api.MaxRune, W: 1}}, Wrap: true, Dir: 2, Explicit: true}

func TestSet(t *testing.T) {
	g := read("abcd")
	for y, want := range map[int]string{0: "xbcd", 1: "axcd", 2: "abxd", 3: "abcx", 4: "abcd", -1: "abcd", 1000: "abcd", far[0]: "abcd", 1 << 32: "abcd", 1<<32 + 1: "abcd", far[len(far)-1]: "abcd"} {
		u := grid.Set(g, y, put)
		if shown(u.Rows) != want || !isSane(u, 4, 3) {
			t.Errorf("P9.3: Set at %d: %q, not %q", y, shown(u.Rows), want)
		}
		if want != "abcd" && !sameRow(u.Rows[y], put) {
			t.Errorf("P9.3: Set at %d: %+v, not %+v", y, u.Rows[y], put)
		}
	}
}

// TestSetOfBadRows asks P9.3 of rows that may not be, and of other widths, at every place.
func TestSetOfBadRows(t *testing.T) {
	bad := slices.Concat(badRows(), []api.Row{{}, {Cells: []api.Cell{}}, blank(1, ground), blank(2, ground), blank(4, ground), blank(api.MaxCols, ground), blank(api.MaxCols+1, ground)})
	for h := 1; h <= 3; h++ {
		g := read(letters(h))
		for _, y := range places(h) {
			for _, r := range bad {
				if u := grid.Set(g, y, r); !same(u.Rows, g.Rows) {
					t.Errorf("P9.3: Set at %d of %d: %.300v", y, h, r)
				}
			}
			if u, want := grid.Set(g, y, put), set(g, y, put); !same(u.Rows, want.Rows) {
				t.Errorf("P9.3: Set at %d of %d: %q, not %q", y, h, shown(u.Rows), shown(want.Rows))
			}
		}
	}
}

func TestClear(t *testing.T) {
	g := read("abcde")
	for _, y := range []struct {
		from, to int
		want     string
	}{
		{0, 5, "_____"}, {1, 3, "a__de"}, {0, 1, "_bcde"}, {4, 5, "abcd_"}, {2, 3, "ab_de"},
		{-3, 99, "_____"}, {-3, 2, "__cde"}, {3, 99, "abc__"}, {far[0], far[len(far)-1], "_____"}, {far[0], 1, "_bcde"}, {4, far[len(far)-1], "abcd_"}, {1, 1<<32 + 2, "a____"},
		{2, 2, "abcde"}, {3, 2, "abcde"}, {5, 9, "abcde"}, {-9, 0, "abcde"}, {-9, -2, "abcde"}, {9, 12, "abcde"}, {far[len(far)-1], far[0], "abcde"}, {4, -1, "abcde"},
	} {
		if u := grid.Clear(g, y.from, y.to, ground); shown(u.Rows) != y.want || !isSane(u, 5, 3) {
			t.Errorf("P9.3: Clear(%d, %d): %q, not %q", y.from, y.to, shown(u.Rows), y.want)
		}
	}
	if u := grid.Clear(g, 1, 2, api.Pen{}); shown(u.Rows) != "a-cde" {
		t.Errorf("P9.3: Clear by Pen{}: %q", shown(u.Rows))
	}
}

// TestClearOfAll asks P9.3 of grids of up to five rows, and all places, against the chapter written out anew.
func TestClearOfAll(t *testing.T) {
	for h := 1; h <= 5; h++ {
		g := read(letters(h))
		for _, from := range places(h) {
			for _, to := range places(h) {
				u, want := grid.Clear(g, from, to, ground), cleared(g, from, to, ground)
				if !same(u.Rows, want.Rows) || !isSane(u, h, 3) {
					t.Fatalf("P9.3: Clear(%d, %d) of %d rows: %q, not %q", from, to, h, shown(u.Rows), shown(want.Rows))
				}
			}
		}
	}
}
