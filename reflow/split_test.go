package reflow_test

import (
	"slices"
	"testing"

	"lapwing/api"
	"lapwing/reflow"
	"lapwing/row"
)

func TestSplit(t *testing.T) {
	for _, y := range []struct {
		x    string
		w    int
		want string
	}{
		{"", 3, "..."},
		{"", 1, "."},
		{"a", 1, "a"},
		{"a", 3, "a.."},
		{"abc", 3, "abc"},
		{"abc", 2, "ab+|c."},
		{"abc", 1, "a+|b+|c"},
		{"abcd", 2, "ab+|cd"},
		{"abcdefghij", 4, "abcd+|efgh+|ij.."},
		{"<", 2, "<>"},
		{"<", 4, "<>.."},
		{"a<", 2, "a.+|<>"},
		{"a<", 3, "a<>"},
		{"<<", 3, "<>.+|<>."},
		{"<a<", 3, "<>a+|<>."},
		{"ab<c<", 3, "ab.+|<>c+|<>."},
		{"<<<", 4, "<><>+|<>.."},
		{"a<b", 2, "a.+|<>+|b."},
		// With one place there is room for no wide one.
		{"<", 1, "."},
		{"<<", 1, "."},
		{"<a", 1, "a"},
		{"a<", 1, "a"},
		{"a<b", 1, "a+|b"},
		{"<<a<<b<<", 1, "a+|b"},
		{"a<.", 1, "a+|."},
		// Blanks are cells as others are.
		{"a..", 2, "a.+|.."},
		{"...", 2, "..+|.."},
		{"...", 1, ".+|.+|."},
		{"a_", 1, "a+|_"},
		{"a.<", 2, "a.+|<>"},
		{"a_<", 2, "a_+|<>"},
		{"a..<", 2, "a.+|..+|<>"},
		// A width that may not be.
		{"ab", 0, "a+|b"},
		{"ab", -1, "a+|b"},
		{"a<b", -4096, "a+|b"},
	} {
		x := lines(y.x)[0]
		if l := reflow.Split(x, y.w); shown(l) != y.want || !sameRows(l, split(x, y.w)) {
			t.Errorf("P11.2: %q by %d: %q, not %q", y.x, y.w, shown(l), y.want)
		}
	}
}

// TestHalves asks P11.2 for what stands behind a wide one: a half by its pen, without its letter and its marks.
func TestHalves(t *testing.T) {
	c := api.Cell{R: 0x4E00, M: [2]int{0x301, 0x302}, W: 2, Pen: ground}
	for w, want := range map[int][]api.Cell{2: {c, {Pen: ground}}, 3: {c, {Pen: ground}, {W: 1}}} {
		if l := reflow.Split(reflow.Line{Cells: []api.Cell{c}}, w); !sameRows(l, []api.Row{{Cells: want}}) {
			t.Errorf("P11.2: by %d: %+v", w, l)
		}
	}
}

// TestSplitOfAll asks P11.2 of all short lines against the chapter written out anew, and of what comes that it may be.
func TestSplitOfAll(t *testing.T) {
	for k, s := range lineTexts(6, ".a<_") {
		x := lines(s)[0]
		x.Dir, x.Explicit = k%3, k%2 == 0
		for w := -1; w <= 9; w++ {
			l, want := reflow.Split(x, w), split(x, w)
			if !sameRows(l, want) {
				t.Fatalf("P11.2: %q by %d: %q, not %q", s, w, shown(l), shown(want))
			}
			for y, r := range l {
				if !row.Sane(r) || len(r.Cells) != max(w, 1) || r.Wrap != (y < len(l)-1) || r.Dir != x.Dir || r.Explicit != x.Explicit {
					t.Fatalf("P11.2: %q by %d: the row %d is %+v", s, w, y, r)
				}
			}
		}
	}
}

// TestWidths asks P11.2 of widths about the greatest one, and of those far away.
func TestWidths(t *testing.T) {
	x := reflow.Line{Cells: slices.Repeat([]api.Cell{{R: 'a', W: 1}, {R: 0x4E00, W: 2}, {W: 1}}, 3000), Dir: 1, Explicit: true}
	for _, w := range slices.Concat(far, []int{-1, 0, 1, 2, 3, 4, 5, 80, 4094, 4095, 4096, 4097, 4098, 8192}) {
		l := reflow.Split(x, w)
		if !sameRows(l, split(x, w)) || len(l[0].Cells) != max(1, min(w, 4096)) {
			t.Errorf("P11.2: by %d: %d rows of %d", w, len(l), len(l[0].Cells))
		}
		if is := reflow.Spread([]reflow.Line{x, {}, x}, w); !sameRows(is, spread([]reflow.Line{x, {}, x}, w)) {
			t.Errorf("P11.2: three lines by %d: %d rows", w, len(is))
		}
		for _, at := range []int{0, 1, 4095, 4096, 8999, 11999, 12000, 1 << 20, far[len(far)-1]} {
			p := reflow.Place{Line: 2, At: at}
			y, k, ok := reflow.Where([]reflow.Line{{}, x, x, x}, w, p)
			if wantY, wantK, want := where([]reflow.Line{{}, x, x, x}, w, p); y != wantY || k != wantK || ok != want {
				t.Errorf("P11.3: %+v by %d: %d, %d, %v", p, w, y, k, ok)
			}
		}
	}
}

func TestSpread(t *testing.T) {
	for _, y := range []struct {
		l    string
		w    int
		want string
	}{
		{"ab|cd", 2, "ab|cd"},
		{"abc|d", 2, "ab+|c.|d."},
		{"||", 2, "..|..|.."},
		{"a<|<|b", 2, "a.+|<>|<>|b."},
		{"<|a", 1, ".|a"},
	} {
		l := lines(y.l)
		if is := reflow.Spread(l, y.w); shown(is) != y.want || !sameRows(is, spread(l, y.w)) {
			t.Errorf("P11.2: %q by %d: %q, not %q", y.l, y.w, shown(is), y.want)
		}
	}
	for _, w := range places(3) {
		if l := reflow.Spread(nil, w); len(l) != 0 {
			t.Errorf("P11.2: no lines by %d: %q", w, shown(l))
		}
	}
}

// TestSpreadOfAll asks P11.2 of all short lists of lines against the chapter written out anew.
func TestSpreadOfAll(t *testing.T) {
	for _, s := range lists(lineTexts(3, ".a<"), 2) {
		for w := 1; w <= 5; w++ {
			l := lines(s)
			if is, want := reflow.Spread(l, w), spread(l, w); !sameRows(is, want) {
				t.Fatalf("P11.2: %q by %d: %q, not %q", s, w, shown(is), shown(want))
			}
		}
	}
}
