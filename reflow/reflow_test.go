package reflow_test

import (
	"slices"
	"testing"

	"lapwing/api"
	"lapwing/reflow"
	"lapwing/row"
)

// TestExample is the chapter's first one.
func TestExample(t *testing.T) {
	l, _, _ := reflow.Reflow(read("abcdefghij"), 4, 0, 0)
	if shown(l) != "abcd+|efgh+|ij.." {
		t.Errorf("P11.4: %q", shown(l))
	}
}

func TestReflow(t *testing.T) {
	for _, y := range []struct {
		l         string
		w, y, at  int
		want      string
		toY, toAt int
	}{
		{"abcdefghij", 4, 0, 9, "abcd+|efgh+|ij..", 2, 1},
		{"abcd+|efgh+|ij..", 5, 2, 1, "abcde+|fghij", 1, 4},
		{"abcd+|efgh+|ij..", 5, 2, 3, "abcde+|fghij", 1, 4},
		{"ab.|cd.", 2, 1, 0, "ab|cd", 1, 0},
		{"ab.|cd.", 2, 0, 2, "ab|cd", 0, 1},
		{"ab.|cd.", 1, 1, 1, "a+|b|c+|d", 3, 0},
		{"...|...", 1, 1, 2, ".|.", 1, 0},
		// Between two widths a wide one comes and goes behind what is left over.
		{"ab<>c", 3, 0, 2, "ab.+|<>c", 1, 0},
		{"ab<>c", 3, 0, 3, "ab.+|<>c", 1, 1},
		{"ab<>c", 3, 0, 4, "ab.+|<>c", 1, 2},
		{"ab.+|<>c", 5, 0, 2, "ab<>c", 0, 2},
		{"ab.+|<>c", 5, 1, 0, "ab<>c", 0, 2},
		{"ab.+|<>c", 4, 1, 2, "ab<>+|c...", 1, 0},
		// Of what is left out the place is counted, too.
		{"a<>b", 1, 0, 3, "a+|b", 1, 0},
		{"<><>ab", 1, 0, 0, "a+|b", 0, 0},
		{"<><>ab", 1, 0, 1, "a+|b", 1, 0},
		{"<>|a", 1, 1, 0, ".|a", 1, 0},
		{"<>", 1, 0, 1, ".", 0, 0},
		// Rows of several widths.
		{"abc+|d|ef", 2, 1, 0, "ab+|cd|ef", 1, 1},
		{"abc+|d|ef", 2, 2, 1, "ab+|cd|ef", 2, 1},
		// A width that may not be.
		{"ab", 0, 0, 1, "a+|b", 1, 0},
		{"ab", -7, 0, 1, "a+|b", 1, 0},
		// There is no such place.
		{"abc+|d", 2, 2, 0, "abc+|d", 2, 0},
		{"abc+|d", 2, -1, 0, "abc+|d", -1, 0},
		{"abc+|d", 2, 1, 1, "abc+|d", 1, 1},
		{"abc+|d", 2, 0, -1, "abc+|d", 0, -1},
	} {
		l := read(y.l)
		is, toY, toAt := reflow.Reflow(l, y.w, y.y, y.at)
		if want, _, _ := reflowed(l, y.w, y.y, y.at); shown(is) != y.want || !sameRows(is, want) || toY != y.toY || toAt != y.toAt {
			t.Errorf("P11.4: %q by %d at %d, %d: %q at %d, %d, not %q at %d, %d", y.l, y.w, y.y, y.at, shown(is), toY, toAt, y.want, y.toY, y.toAt)
		}
	}
	for _, y := range places(1) {
		if l, toY, toAt := reflow.Reflow(nil, 2, y, 0); len(l) != 0 || toY != y || toAt != 0 {
			t.Errorf("P11.4: no rows, at %d: %q at %d, %d", y, shown(l), toY, toAt)
		}
	}
}

// TestReflowOfAll asks P11.4 of all short lists of rows, at each place and next to them, against the chapter written out anew, and of what comes that the place is there.
func TestReflowOfAll(t *testing.T) {
	for _, s := range manyLists() {
		l := read(s)
		for y := range l {
			for at := 0; at <= len(l[y].Cells); at++ {
				for w := 1; w <= 5; w++ {
					is, toY, toAt := reflow.Reflow(l, w, y, at)
					want, wantY, wantAt := reflowed(l, w, y, at)
					if !sameRows(is, want) || toY != wantY || toAt != wantAt {
						t.Fatalf("P11.4: %q by %d at %d, %d: %q at %d, %d, not %q at %d, %d", s, w, y, at, shown(is), toY, toAt, shown(want), wantY, wantAt)
					}
					if at < len(l[y].Cells) && (toY < 0 || toY >= len(is) || toAt < 0 || toAt >= w) {
						t.Fatalf("P11.4: %q by %d at %d, %d: %q at %d, %d", s, w, y, at, shown(is), toY, toAt)
					}
				}
			}
		}
	}
}

// TestReflowFarAway asks P11.4 of places and widths far away.
func TestReflowFarAway(t *testing.T) {
	l := read("a.+|<>+|b.|c_")
	for _, y := range places(4) {
		for _, at := range places(2) {
			for _, w := range places(4) {
				is, toY, toAt := reflow.Reflow(l, w, y, at)
				want, wantY, wantAt := reflowed(l, w, y, at)
				if !sameRows(is, want) || toY != wantY || toAt != wantAt {
					t.Fatalf("P11.4: by %d at %d, %d: %q at %d, %d", w, y, at, shown(is), toY, toAt)
				}
			}
		}
	}
}

// TestSpreadAndJoined asks P11.5 of all short lists of lines in which no cell is blank by Pen{}.
func TestSpreadAndJoined(t *testing.T) {
	all := lists(lineTexts(3, "a<_"), 2)
	all = append(all, lineTexts(7, "a<_")...)
	for _, s := range all {
		l := lines(s)
		for w := 2; w <= 9; w++ {
			if is := reflow.Join(reflow.Spread(l, w)); !sameLines(is, l) {
				t.Fatalf("P11.5: %q by %d: %q", s, w, shownLines(is))
			}
		}
		narrow := twinLines(l)
		for k := range narrow {
			narrow[k].Cells = slices.DeleteFunc(narrow[k].Cells, func(c api.Cell) bool { return c.W == 2 })
		}
		if is := reflow.Join(reflow.Spread(l, 1)); !sameLines(is, narrow) {
			t.Fatalf("P11.5: %q by 1: %q", s, shownLines(is))
		}
	}
}

// TestLettersStay asks P11.5 of all short lists of rows: whatever blanks come and go, each cell that has something stays, with its letter, marks and pen, but for what is too wide.
func TestLettersStay(t *testing.T) {
	for _, s := range manyLists() {
		l := read(s)
		for w := 1; w <= 5; w++ {
			is, _, _ := reflow.Reflow(l, w, 0, 0)
			if got, want := something(is, w), something(l, w); !slices.Equal(got, want) {
				t.Fatalf("P11.5: %q by %d: %+v, not %+v", s, w, got, want)
			}
			for _, r := range is {
				if !row.Sane(r) || len(r.Cells) != w {
					t.Fatalf("P11.5: %q by %d: %+v", s, w, r)
				}
			}
		}
	}
}

// something are the cells of rows that have something, and are not too wide.
func something(l []api.Row, w int) []api.Cell {
	var all []api.Cell
	for _, r := range l {
		for _, c := range r.Cells {
			if c != (api.Cell{W: 1}) && c.W > 0 && c.W <= w {
				all = append(all, c)
			}
		}
	}
	return all
}

// TestThereAndBack asks P11.5 of a screen's rows that go through many widths.
func TestThereAndBack(t *testing.T) {
	l := read("abcd+|<><>+|e_f<>+|<>gh+|ij|kl|_<>m+|n")
	want := reflow.Join(l)
	for _, w := range []int{80, 3, 2, 7, 4096, 5, 2, 9, 4} {
		l, _, _ = reflow.Reflow(l, w, 0, 0)
		if is := reflow.Join(l); !sameLines(is, want) {
			t.Fatalf("P11.5: by %d: %q, not %q", w, shownLines(is), shownLines(want))
		}
	}
}
