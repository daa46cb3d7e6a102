package row_test

import (
	"slices"
	"testing"

	"lapwing/api"
	"lapwing/pen"
	"lapwing/row"
)

func TestBlank(t *testing.T) {
	for _, p := range slices.Concat(badPens, []api.Pen{{}, ground, {Fg: 1<<25 - 1, Bg: 256, Flags: 511}}) {
		if c := row.Blank(p); c != (api.Cell{R: 0, M: [2]int{0, 0}, W: 1, Pen: p}) {
			t.Errorf("P8.1: Blank(%+v): %+v", p, c)
		}
	}
}

func TestNew(t *testing.T) {
	for w, want := range map[int]int{-4097: 1, -1: 1, 0: 1, 1: 1, 2: 2, 80: 80, 4095: 4095, 4096: 4096, 4097: 4096, far[0]: 1, -1<<32 + 1: 1, 1<<32 + 1: 4096, far[len(far)-1]: 4096} {
		for _, p := range slices.Concat(badPens, []api.Pen{{}, ground}) {
			r := row.New(w, p)
			if len(r.Cells) != want || r.Wrap || r.Dir != 0 || r.Explicit {
				t.Fatalf("P8.1: New(%d, %+v): %d cells, %v %d %v", w, p, len(r.Cells), r.Wrap, r.Dir, r.Explicit)
			}
			for k, c := range r.Cells {
				if c != blank(p) {
					t.Fatalf("P8.1: New(%d, %+v): the cell %d is %+v", w, p, k, c)
				}
			}
			if row.Sane(r) != pen.Sane(p) {
				t.Errorf("P8.1: New(%d, %+v): Sane is %v", w, p, row.Sane(r))
			}
		}
	}
}

func TestSane(t *testing.T) {
	for _, r := range short(6) {
		if !row.Sane(r) {
			t.Errorf("P8.1: %+v is not Sane", r)
		}
	}
	for _, y := range faults() {
		if row.Sane(y.r) {
			t.Errorf("P8.1: %s: %.300v is Sane", y.name, shown(y.r))
		}
	}
}

// TestSaneAtItsLimits asks P8.1 of each thing that has a limit, at that limit.
func TestSaneAtItsLimits(t *testing.T) {
	half := api.Cell{Pen: ground}
	for k, cells := range [][]api.Cell{
		{{W: 1}},
		{{R: 1, W: 1}},
		{{R: api.MaxRune, W: 1, M: [2]int{api.MaxRune, api.MaxRune}}},
		{{R: api.MaxRune, W: 2, M: [2]int{1, 1}}, {}},
		{{R: 1, W: 1, M: [2]int{1, 0}}, {R: 1, W: 1, M: [2]int{api.MaxRune, 1}}},
		{{R: 0xD800, W: 1, M: [2]int{0xDFFF, 0xFFFE}}},
		{wide, half, wide, {}, x},
		{{R: 1, W: 2, Pen: api.Pen{Flags: 511}}, {Pen: api.Pen{Bg: 1<<25 - 1}}},
	} {
		for dir := range 3 {
			for _, wrap := range []bool{false, true} {
				if r := (api.Row{Cells: cells, Wrap: wrap, Dir: dir, Explicit: !wrap}); !row.Sane(r) {
					t.Errorf("P8.1: %d: %+v is not Sane", k, r)
				}
			}
		}
	}
	long := row.New(api.MaxCols, ground)
	long.Cells[api.MaxCols-2], long.Cells[api.MaxCols-1] = wide, half
	if !row.Sane(long) || row.Sane(api.Row{Cells: append(slices.Clone(long.Cells), x)}) || !row.Sane(api.Row{Cells: long.Cells[2:]}) || row.Sane(api.Row{Cells: long.Cells[:api.MaxCols-1]}) {
		t.Error("P8.1: rows of about 4096 cells")
	}
}

// TestSaneOfPens asks P8.1 of a pen that may not be at each place of a row, whatever pens stand next to it.
func TestSaneOfPens(t *testing.T) {
	pens := slices.Concat(badPens[:3], []api.Pen{{}, ground})
	lists(pens, 4, func(l []api.Pen) {
		r, want := api.Row{}, len(l) > 0
		for _, p := range l {
			r.Cells = append(r.Cells, api.Cell{R: 'a', W: 1, Pen: p})
			want = want && pen.Sane(p)
		}
		if row.Sane(r) != want {
			t.Errorf("P8.1: pens %+v: Sane is %v", l, !want)
		}
	})
}

// TestSaneOfLists asks P8.1 of all short lists of cells, some of which may not be, against the chapter written out anew.
func TestSaneOfLists(t *testing.T) {
	some := slices.Concat(goodCells(), badCells(), []api.Cell{{}, {Pen: ground}})
	lists(some, 3, func(l []api.Cell) {
		r := api.Row{Cells: l}
		if want := mayBe(r); row.Sane(r) != want {
			t.Fatalf("P8.1: %+v: Sane is %v", l, !want)
		}
	})
}

// TestWhatIsNotSane asks for the row itself, or nothing, whatever is done to a row that may not be.
func TestWhatIsNotSane(t *testing.T) {
	for _, y := range faults() {
		for _, at := range []int{-1, 0, 1, 2, 4, 4095, far[0], far[len(far)-1]} {
			for name, r := range map[string]api.Row{
				"Put":              row.Put(y.r, at, x),
				"Put of a wide":    row.Put(y.r, at, wide),
				"Mark":             row.Mark(y.r, at, 0x301),
				"Erase":            row.Erase(y.r, at, 4, ground),
				"Erase of nothing": row.Erase(y.r, at, at, ground),
				"Insert":           row.Insert(y.r, at, 1, 3, ground),
				"Delete":           row.Delete(y.r, at, 1, 3, ground),
				"Fit":              row.Fit(y.r, at, ground),
			} {
				if !same(r, y.r) {
					t.Errorf("P8.2: %s: %s at %d: %.300s", y.name, name, at, shown(r))
				}
			}
			if l := row.Letters(y.r, 0, at); len(l) != 0 {
				t.Errorf("P8.2: %s: Letters up to %d: %x", y.name, at, l)
			}
		}
		if n := row.Length(y.r); n != 0 {
			t.Errorf("P8.2: %s: Length is %d", y.name, n)
		}
		if r := row.Mend(y.r); !same(r, mended(y.r)) {
			t.Errorf("P8.2: %s: Mend: %.300s", y.name, shown(r))
		}
	}
}

func TestMend(t *testing.T) {
	for s, want := range map[string]string{
		"a.b":    "a.b 012",
		"a<>":    "a<> 012",
		"<>":     "<> 01",
		"<":      ". 0",
		">":      ". 0",
		"a<":     "a. 01",
		">a":     ".a 01",
		"<a>":    ".a. 012",
		"<<>":    ".<> 012",
		"<>>":    "<>. 012",
		"<<>>":   ".<>. 0123",
		"><":     ".. 01",
		"><>":    ".<> 012",
		"<><":    "<>. 012",
		"<><>":   "<><> 0123",
		"<.>":    "... 012",
		"<<<":    "... 012",
		">>>":    "... 012",
		"a<>><b": "a<>..b 012345",
	} {
		r := read(s)
		is := row.Mend(r)
		if shown(is) != want || is.Wrap != r.Wrap || is.Dir != r.Dir || is.Explicit != r.Explicit || !row.Sane(is) {
			t.Errorf("P8.2: Mend of %q: %q, not %q", s, shown(is), want)
		}
	}
	if r := row.Mend(api.Row{Wrap: true, Dir: -7}); !same(r, api.Row{Wrap: true, Dir: -7}) {
		t.Errorf("P8.2: Mend of no cells: %+v", r)
	}
}

// TestMendOfLists asks P8.2 of all short lists of cells of any W, letters and marks at all of them.
func TestMendOfLists(t *testing.T) {
	lists([]int{-1, 0, 1, 2, 3}, 6, func(l []int) {
		r := api.Row{Wrap: len(l)%2 == 0, Dir: len(l) - 2, Explicit: len(l) > 3}
		for k, w := range l {
			r.Cells = append(r.Cells, api.Cell{R: 'a' + k, M: [2]int{k, 5}, W: w, Pen: api.Pen{Fg: k - 2}})
		}
		is, want := row.Mend(r), mended(r)
		if !same(is, want) {
			t.Fatalf("P8.2: Mend of W %v: %+v, not %+v", l, is, want)
		}
		if again := row.Mend(is); !same(again, is) {
			t.Fatalf("P8.2: Mend of what is mended of W %v: %+v", l, again)
		}
	})
	long := api.Row{Cells: make([]api.Cell, 3*api.MaxCols)}
	if r := row.Mend(long); len(r.Cells) != 3*api.MaxCols || r.Cells[0] != blank(api.Pen{}) || r.Cells[3*api.MaxCols-1] != blank(api.Pen{}) {
		t.Error("P8.2: Mend of too many cells")
	}
}
