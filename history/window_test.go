package history_test

import (
	"testing"

	"lapwing/api"
	"lapwing/grid"
	"lapwing/history"
)

func TestWindow(t *testing.T) {
	for _, y := range []struct {
		had, grid string
		back      int
		want      string
	}{
		{"", "x", 0, "x"}, {"", "x", 1, "x"}, {"", "xyz", 2, "xyz"}, {"", "xyz", -1, "xyz"}, {"", "xyz", far[len(far)-1], "xyz"},
		{"abcd", "xyz", 0, "xyz"}, {"abcd", "xyz", 1, "dxy"}, {"abcd", "xyz", 2, "cdx"}, {"abcd", "xyz", 3, "bcd"}, {"abcd", "xyz", 4, "abc"},
		{"abcd", "xyz", 5, "abc"}, {"abcd", "xyz", 7, "abc"}, {"abcd", "xyz", 8, "abc"}, {"abcd", "xyz", 200, "abc"},
		{"abcd", "xyz", -1, "xyz"}, {"abcd", "xyz", -4, "xyz"},
		{"abcd", "xyz", far[0], "xyz"}, {"abcd", "xyz", -1<<32 + 1, "xyz"}, {"abcd", "xyz", 1 << 32, "abc"}, {"abcd", "xyz", 1<<32 + 1, "abc"},
		{"abcd", "xyz", far[len(far)-1], "abc"},
		{"abcd", "x", 0, "x"}, {"abcd", "x", 1, "d"}, {"abcd", "x", 2, "c"}, {"abcd", "x", 4, "a"}, {"abcd", "x", 5, "a"},
		{"ab", "vwxyz", 0, "vwxyz"}, {"ab", "vwxyz", 1, "bvwxy"}, {"ab", "vwxyz", 2, "abvwx"}, {"ab", "vwxyz", 3, "abvwx"}, {"ab", "vwxyz", 9, "abvwx"},
		{"abc", "xyz", 3, "abc"}, {"a", "xyz", 1, "axy"},
	} {
		l := history.Window(kept(y.had, 6), gridOf(y.grid), y.back)
		if shown(l) != y.want {
			t.Errorf("P10.3: %q and %q, %d back: %q, not %q", y.had, y.grid, y.back, shown(l), y.want)
		}
	}
}

// TestWindowOfAll asks P10.3 of lists of no to six rows, grids of one to six, and all places, against the chapter written out anew.
func TestWindowOfAll(t *testing.T) {
	for had := range 7 {
		k := kept(letters(had), 6)
		for h := 1; h <= 6; h++ {
			g := gridOf("uvwxyz"[:h])
			for _, back := range places(had + h) {
				l, want := history.Window(k, g, back), window(k, g, back)
				if !same(l, want) || len(l) != h {
					t.Fatalf("P10.3: %q and %q, %d back: %q, not %q", shown(k.Rows), shown(g.Rows), back, shown(l), shown(want))
				}
			}
		}
	}
}

func TestWindowAtItsGreatest(t *testing.T) {
	l := many(api.MaxKept + api.MaxRows)
	k := history.Kept{Rows: l[:api.MaxKept], Cap: api.MaxKept}
	for _, h := range []int{1, 24, 199, 200, 201, 1000} {
		g := grid.Grid{Rows: l[api.MaxKept : api.MaxKept+h]}
		for _, back := range []int{0, 1, 24, 199, 200, 201, 1000} {
			from := api.MaxKept - min(back, api.MaxKept)
			if w := history.Window(k, g, back); !same(w, l[from:from+h]) {
				t.Errorf("P10.3: 200 rows and %d, %d back: %q", h, back, shown(w))
			}
		}
	}
}

func TestWindowOfGridsThatMayNotBe(t *testing.T) {
	for _, g := range badGrids() {
		for _, k := range []history.Kept{{}, kept("", 3), kept("abc", 3), {Rows: many(200), Cap: 200}} {
			for _, back := range places(len(k.Rows)) {
				if l := history.Window(k, g, back); len(l) != 0 {
					t.Fatalf("P10.3: %q, %d back, of a grid %q", shown(l), back, shown(g.Rows))
				}
			}
		}
	}
}

func TestCells(t *testing.T) {
	for _, y := range []struct {
		had  string
		want int
	}{{"", 0}, {"d", 1}, {"a", 3}, {"b", 5}, {"c", 7}, {"abcd", 16}, {"dddd", 4}, {"cdc", 15}} {
		if n := history.Cells(kept(y.had, 6)); n != y.want {
			t.Errorf("P10.3: %d cells of %q, not %d", n, y.had, y.want)
		}
	}
	widest := grid.New(api.MaxKept, api.MaxCols, api.Pen{}).Rows
	if n := history.Cells(history.Kept{Rows: widest, Cap: api.MaxKept}); n != 200*4096 {
		t.Errorf("P10.3: %d cells", n)
	}
	if n := history.Cells(history.Kept{Rows: many(200), Cap: 200}); n != 200 {
		t.Errorf("P10.3: %d cells", n)
	}
}
