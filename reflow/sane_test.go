package reflow_test

import (
	"slices"
	"testing"

	"lapwing/api"
	"lapwing/reflow"
	"lapwing/row"
)

func TestSane(t *testing.T) {
	for _, s := range lineTexts(5, ".a<_") {
		if x := lines(s)[0]; !reflow.Sane(x) {
			t.Errorf("P11.1: %q: not Sane", s)
		}
	}
	for dir := range 3 {
		for _, explicit := range []bool{false, true} {
			for _, cells := range [][]api.Cell{nil, {}, goodCells(), slices.Repeat(goodCells(), 2000)} {
				if !reflow.Sane(reflow.Line{Cells: cells, Dir: dir, Explicit: explicit}) {
					t.Errorf("P11.1: %d cells, Dir %d: not Sane", len(cells), dir)
				}
			}
		}
	}
	for _, x := range badLines() {
		if reflow.Sane(x) {
			t.Errorf("P11.1: Sane: %+v", x)
		}
	}
}

// TestSaneOfLists asks P11.1 of all short lists of cells, some of which may not be, against the chapter written out anew.
func TestSaneOfLists(t *testing.T) {
	some := slices.Concat(goodCells(), badCells())
	for _, a := range some {
		for _, b := range some {
			for _, c := range some {
				for n, cells := range [][]api.Cell{{a}, {a, b}, {a, b, c}} {
					x := reflow.Line{Cells: cells, Dir: n}
					if want := mayBe(x); reflow.Sane(x) != want {
						t.Fatalf("P11.1: Sane is %v of %+v", !want, x)
					}
				}
			}
		}
	}
}

// TestSaneAtItsLimits asks P11.1 of each number of a cell at its limits, and next to them.
func TestSaneAtItsLimits(t *testing.T) {
	for _, w := range places(2) {
		for _, r := range append(places(1), 0x10FFFE, 0x10FFFF, 0x110000) {
			for _, m := range []int{-1, 0, 1, 0x10FFFF, 0x110000} {
				for _, more := range []int{-1, 0, 1, 0x10FFFF, 0x110000} {
					x := reflow.Line{Cells: []api.Cell{{R: r, W: w, M: [2]int{m, more}}}}
					if want := mayBe(x); reflow.Sane(x) != want {
						t.Fatalf("P11.1: Sane is %v of %+v", !want, x)
					}
				}
			}
		}
	}
}

// TestBadRows asks for nothing of lists in which a row may not be, wherever it stands, and for the rows themselves of Reflow.
func TestBadRows(t *testing.T) {
	for _, bad := range badRows() {
		if row.Sane(bad) {
			t.Fatalf("no fault: %+v", bad)
		}
		for n := range 4 {
			l := read("ab+|<>+|c.|d")
			l[n] = bad
			if lines := reflow.Join(l); len(lines) != 0 {
				t.Errorf("P11.1: %q with a bad row at %d: %q", shown(l), n, shownLines(lines))
			}
			for y := -1; y <= 4; y++ {
				for at := -1; at <= 2; at++ {
					if p, ok := reflow.Find(l, y, at); ok || p != (reflow.Place{}) {
						t.Errorf("P11.3: %q with a bad row at %d: %+v, %v", shown(l), n, p, ok)
					}
					if is, toY, toAt := reflow.Reflow(l, 3, y, at); !sameRows(is, l) || toY != y || toAt != at {
						t.Errorf("P11.4: %q with a bad row at %d: %q, %d, %d", shown(l), n, shown(is), toY, toAt)
					}
				}
			}
		}
	}
}

// TestBadLines asks for nothing of lines that may not be: no rows of them, and no place in any line beside them.
func TestBadLines(t *testing.T) {
	for _, bad := range badLines() {
		for _, w := range []int{0, 1, 2, 5, 4096} {
			if l := reflow.Split(bad, w); len(l) != 0 {
				t.Errorf("P11.2: %+v: %q", bad, shown(l))
			}
		}
		for n := range 3 {
			l := lines("ab<|.|cd_")
			l[n] = bad
			if is, want := reflow.Spread(l, 2), spread(slices.Delete(twinLines(l), n, n+1), 2); !sameRows(is, want) {
				t.Errorf("P11.2: a bad line at %d: %q, not %q", n, shown(is), shown(want))
			}
			for line := -1; line <= 3; line++ {
				for _, at := range []int{-1, 0, 1, 5} {
					if y, k, ok := reflow.Where(l, 2, reflow.Place{Line: line, At: at}); ok || y != 0 || k != 0 {
						t.Errorf("P11.3: a bad line at %d: %d, %d, %v", n, y, k, ok)
					}
				}
			}
		}
	}
}
