package grid_test

import (
	"testing"

	"lapwing/api"
	"lapwing/grid"
)

// TestExample is the chapter's first one.
func TestExample(t *testing.T) {
	g := read("abc")
	u, gone := grid.Up(g, 0, 3, 1, ground)
	if shown(u.Rows) != "bc_" || shown(gone) != "a" || !sameRow(gone[0], g.Rows[0]) {
		t.Errorf("P9.2: %q, %q gone", shown(u.Rows), shown(gone))
	}
}

func TestUpAndDown(t *testing.T) {
	for _, y := range []struct {
		top, bottom, n int
		up, gone, down string
	}{
		{0, 5, 1, "bcde_", "a", "_abcd"},
		{0, 5, 2, "cde__", "ab", "__abc"},
		{0, 5, 4, "e____", "abcd", "____a"},
		{0, 5, 5, "_____", "abcde", "_____"},
		{0, 5, 6, "_____", "abcde", "_____"},
		{0, 5, far[len(far)-1], "_____", "abcde", "_____"},
		{0, 5, 1<<32 + 1, "_____", "abcde", "_____"},
		{0, 5, 0, "abcde", "", "abcde"},
		{0, 5, -1, "abcde", "", "abcde"},
		{0, 5, -5, "abcde", "", "abcde"},
		{0, 5, far[0], "abcde", "", "abcde"},
		{1, 4, 1, "acd_e", "b", "a_bce"},
		{1, 4, 2, "ad__e", "bc", "a__be"},
		{1, 4, 3, "a___e", "bcd", "a___e"},
		{1, 4, 4, "a___e", "bcd", "a___e"},
		{1, 4, -2, "abcde", "", "abcde"},
		{0, 2, 1, "b_cde", "a", "_acde"},
		{3, 5, 1, "abce_", "d", "abc_d"},
		{0, 1, 1, "_bcde", "a", "_bcde"},
		{4, 5, 1, "abcd_", "e", "abcd_"},
		{2, 3, 9, "ab_de", "c", "ab_de"},
		{2, 3, 0, "abcde", "", "abcde"},
		{2, 2, 1, "abcde", "", "abcde"},
		{3, 2, 1, "abcde", "", "abcde"},
		{5, 5, 1, "abcde", "", "abcde"},
		{0, 0, 1, "abcde", "", "abcde"},
		{-1, 3, 1, "abcde", "", "abcde"},
		{-1, 5, 9, "abcde", "", "abcde"},
		{0, 6, 1, "abcde", "", "abcde"},
		{4, 6, 1, "abcde", "", "abcde"},
		{5, 6, 1, "abcde", "", "abcde"},
		{far[0], 5, 1, "abcde", "", "abcde"},
		{0, far[len(far)-1], 1, "abcde", "", "abcde"},
		{far[0], far[len(far)-1], 1, "abcde", "", "abcde"},
		{1 << 32, 1<<32 + 5, 1, "abcde", "", "abcde"},
	} {
		g := read("abcde")
		u, gone := grid.Up(g, y.top, y.bottom, y.n, ground)
		if shown(u.Rows) != y.up || shown(gone) != y.gone {
			t.Errorf("P9.2: Up(%d, %d, %d): %q, %q gone, not %q, %q", y.top, y.bottom, y.n, shown(u.Rows), shown(gone), y.up, y.gone)
		}
		if d := grid.Down(g, y.top, y.bottom, y.n, ground); shown(d.Rows) != y.down {
			t.Errorf("P9.2: Down(%d, %d, %d): %q, not %q", y.top, y.bottom, y.n, shown(d.Rows), y.down)
		}
	}
}

// TestMovesOfAll asks P9.2 of grids of up to five rows, and all places, against the chapter written out anew, and P9.4 of what comes.
func TestMovesOfAll(t *testing.T) {
	for h := 1; h <= 5; h++ {
		g := read(letters(h))
		for _, top := range places(h) {
			for _, bottom := range places(h) {
				for _, n := range places(h) {
					u, gone := grid.Up(g, top, bottom, n, ground)
					want, left := up(g, top, bottom, n, ground)
					if !same(u.Rows, want.Rows) || !same(gone, left) {
						t.Fatalf("P9.2: Up(%d, %d, %d) of %d rows: %q, %q gone, not %q, %q", top, bottom, n, h, shown(u.Rows), shown(gone), shown(want.Rows), shown(left))
					}
					d := grid.Down(g, top, bottom, n, ground)
					if want := down(g, top, bottom, n, ground); !same(d.Rows, want.Rows) {
						t.Fatalf("P9.2: Down(%d, %d, %d) of %d rows: %q, not %q", top, bottom, n, h, shown(d.Rows), shown(want.Rows))
					}
					if !isSane(u, h, 3) || !isSane(d, h, 3) {
						t.Fatalf("P9.4: (%d, %d, %d) of %d rows", top, bottom, n, h)
					}
				}
			}
		}
	}
}

// TestUpStepByStep asks that moves by one, one behind the other, make what one move makes.
func TestUpStepByStep(t *testing.T) {
	g := read("abcdef")
	for top := range 6 {
		for bottom := top + 1; bottom <= 6; bottom++ {
			u, d := g, g
			var all []api.Row
			for n := 1; n <= bottom-top+1; n++ {
				var gone []api.Row
				u, gone = grid.Up(u, top, bottom, 1, ground)
				all = append(all, gone...)
				d = grid.Down(d, top, bottom, 1, ground)
				once, left := grid.Up(g, top, bottom, n, ground)
				if !same(once.Rows, u.Rows) || !same(left, all[:len(left)]) || len(left) != min(n, bottom-top) {
					t.Fatalf("P9.2: Up(%d, %d) by %d: %q, and %q step by step", top, bottom, n, shown(once.Rows), shown(u.Rows))
				}
				if once := grid.Down(g, top, bottom, n, ground); !same(once.Rows, d.Rows) {
					t.Fatalf("P9.2: Down(%d, %d) by %d: %q, and %q step by step", top, bottom, n, shown(once.Rows), shown(d.Rows))
				}
			}
		}
	}
}
