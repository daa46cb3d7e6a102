package row_test

import (
	"slices"
	"testing"

	"lapwing/api"
	"lapwing/row"
)

func TestPut(t *testing.T) {
	for _, y := range []struct {
		s    string
		at   int
		c    api.Cell
		want string
	}{
		{"abc", 0, x, "xbc _12"},
		{"abc", 1, x, "axc 0_2"},
		{"abc", 2, x, "abx 01_"},
		{"abc", 3, x, "abc 012"},
		{"abc", -1, x, "abc 012"},
		{"a", 0, x, "x _"},
		{"a", 0, wide, "a 0"},
		{"abc", 0, wide, "<>c __2"},
		{"abc", 1, wide, "a<> 0__"},
		{"abc", 2, wide, "abc 012"},
		{"abc", 3, wide, "abc 012"},
		{"abc", -1, wide, "abc 012"},
		{"a<>b", 1, x, "ax.b 0_23"},
		{"a<>b", 2, x, "a.xb 01_3"},
		{"a<>b", 0, wide, "<>.b __23"},
		{"a<>b", 1, wide, "a<>b 0__3"},
		{"a<>b", 2, wide, "a.<> 01__"},
		{"<><>", 1, wide, ".<>. 0__3"},
		{"<><>", 0, wide, "<><> __23"},
		{"<><>", 2, wide, "<><> 01__"},
		{"<><>", 3, wide, "<><> 0123"},
		{"<>", 0, x, "x. _1"},
		{"<>", 1, x, ".x 0_"},
		{"<>", 0, api.Cell{W: 1, Pen: ground}, ".. _1"},
		{"<>a", 2, api.Cell{W: 1}, "<>. 01-"},
		{"abc", 1, api.Cell{R: 'x', W: 0}, "abc 012"},
		{"a<>", 2, api.Cell{W: 0, Pen: ground}, "a<> 012"},
		{"a<>", 2, api.Cell{W: 0}, "a<> 012"},
	} {
		r := read(y.s)
		is := row.Put(r, y.at, y.c)
		if shown(is) != y.want || is.Wrap != r.Wrap || is.Dir != r.Dir || is.Explicit != r.Explicit {
			t.Errorf("P8.2: Put %+v at %d of %q: %q, not %q", y.c, y.at, y.s, shown(is), y.want)
		}
	}
}

// TestTheHalfBehind asks P8.2 of what Put lays behind a wide one: no letter, no mark, the same pen.
func TestTheHalfBehind(t *testing.T) {
	c := api.Cell{R: 0x4E99, M: [2]int{0x301, 0x302}, W: 2, Pen: ground}
	r := row.Put(read("abc"), 1, c)
	if r.Cells[1] != c || r.Cells[2] != (api.Cell{R: 0, M: [2]int{0, 0}, W: 0, Pen: ground}) {
		t.Errorf("P8.2: %+v", r.Cells)
	}
}

// TestPutOfBadCells asks P8.2 for the row itself, where what is put may not be.
func TestPutOfBadCells(t *testing.T) {
	for _, c := range badCells() {
		for _, s := range []string{"abcd", "<><>", "...."} {
			for _, at := range places(4) {
				if r := row.Put(read(s), at, c); !same(r, read(s)) {
					t.Errorf("P8.2: Put %+v at %d of %q: %+v", c, at, s, r)
				}
			}
		}
	}
}

// TestPutOfAll asks P8.2 and P8.5 of all short rows, and all places, against the chapter written out anew.
func TestPutOfAll(t *testing.T) {
	cells := slices.Concat(goodCells(), badCells()[:20])
	for _, r := range short(5) {
		for _, at := range places(len(r.Cells)) {
			for _, c := range cells {
				is, want := row.Put(r, at, c), put(r, at, c)
				if !same(is, want) || !row.Sane(is) || len(is.Cells) != len(r.Cells) {
					t.Fatalf("P8.2: Put %+v at %d of %q: %+v, not %+v", c, at, shown(r), is, want)
				}
			}
		}
	}
}

func TestMark(t *testing.T) {
	r := read("a<>.b")
	asked := func(at int, want ...int) {
		t.Helper()
		r = row.Mark(r, at, 0x300+at)
		if l := row.Letters(r, 0, 5); !slices.Equal(l, want) {
			t.Errorf("P8.2: marked at %d: %x, not %x", at, l, want)
		}
	}
	asked(0, 'a', 0x300, 0x4E01, ' ', 'b')
	asked(2, 'a', 0x300, 0x4E01, 0x302, ' ', 'b')
	asked(1, 'a', 0x300, 0x4E01, 0x302, 0x301, ' ', 'b')
	asked(2, 'a', 0x300, 0x4E01, 0x302, 0x301, ' ', 'b')
	asked(3, 'a', 0x300, 0x4E01, 0x302, 0x301, ' ', 'b')
	asked(4, 'a', 0x300, 0x4E01, 0x302, 0x301, ' ', 'b', 0x304)
	asked(5, 'a', 0x300, 0x4E01, 0x302, 0x301, ' ', 'b', 0x304)
	asked(-1, 'a', 0x300, 0x4E01, 0x302, 0x301, ' ', 'b', 0x304)
	asked(4, 'a', 0x300, 0x4E01, 0x302, 0x301, ' ', 'b', 0x304, 0x304)
	asked(4, 'a', 0x300, 0x4E01, 0x302, 0x301, ' ', 'b', 0x304, 0x304)
	asked(0, 'a', 0x300, 0x300, 0x4E01, 0x302, 0x301, ' ', 'b', 0x304, 0x304)
	if shown(r) != "a<>.b 01234" || !r.Wrap || r.Dir != 1 || !r.Explicit || !row.Sane(r) {
		t.Errorf("P8.2: all else but marks: %q", shown(r))
	}
	if r.Cells[2].M != [2]int{} || r.Cells[3].M != [2]int{} {
		t.Errorf("P8.2: marks of a half, or of a blank: %+v", r.Cells)
	}
}

// TestWhatIsNoMark asks P8.2 of numbers that no mark is, and of those that still are.
func TestWhatIsNoMark(t *testing.T) {
	for _, m := range slices.Concat([]int{0, -1, api.MaxRune + 1}, far[:6], far[8:]) {
		if r := row.Mark(read("a<>"), 0, m); !same(r, read("a<>")) {
			t.Errorf("P8.2: a mark %d: %+v", m, r)
		}
	}
	for _, m := range []int{1, 'a', 0x301, 0xD800, api.MaxRune} {
		r := row.Mark(read("a<>"), 2, m)
		if want := mark(read("a<>"), 2, m); !same(r, want) || r.Cells[1].M != [2]int{m, 0} || !row.Sane(r) {
			t.Errorf("P8.2: a mark %x: %+v", m, r)
		}
	}
}

// TestMarkOfAll asks P8.2 and P8.5 of all short rows, and all places, against the chapter written out anew.
func TestMarkOfAll(t *testing.T) {
	for _, r := range short(5) {
		for _, at := range places(len(r.Cells)) {
			for _, m := range []int{-1, 0, 1, 0x301, api.MaxRune, api.MaxRune + 1, far[0], far[len(far)-1]} {
				is, want := row.Mark(r, at, m), mark(r, at, m)
				if !same(is, want) || !row.Sane(is) || len(is.Cells) != len(r.Cells) {
					t.Fatalf("P8.2: a mark %x at %d of %q: %+v, not %+v", m, at, shown(r), is, want)
				}
			}
		}
	}
}
