package row_test

import (
	"slices"
	"testing"

	"lapwing/api"
	"lapwing/row"
)

// plain is a row that is read, all by Pen{}.
func plain(s string) api.Row {
	r := read(s)
	for k := range r.Cells {
		r.Cells[k].Pen = api.Pen{}
	}
	return r
}

func TestLength(t *testing.T) {
	for s, want := range map[string]int{
		".": 0, "....": 0, "a": 1, "a...": 1, ".a": 2, "..a.": 3, "...a": 4, "a.b.": 3,
		"<>": 2, "<>..": 2, ".<>.": 3, "..<>": 4, "a<>": 3, "<>a.": 3,
	} {
		if n := row.Length(plain(s)); n != want {
			t.Errorf("P8.4: Length of %q: %d, not %d", s, n, want)
		}
		if n := row.Length(read(s)); n != len(s) {
			t.Errorf("P8.4: Length of %q with pens: %d, not %d", s, n, len(s))
		}
	}
	for _, p := range []api.Pen{{Fg: 1}, {Bg: 1}, {Flags: 1}} {
		for s, least := range map[string]int{".....": 0, "a....": 1, "<>...": 2} {
			for at := range len(s) {
				r := plain(s)
				r.Cells[at].Pen = p
				if n, want := row.Length(r), max(at+1, least); n != want {
					t.Errorf("P8.4: Length of %q, %+v at %d: %d, not %d", s, p, at, n, want)
				}
			}
		}
	}
	if n := row.Length(row.New(api.MaxCols, api.Pen{})); n != 0 {
		t.Errorf("P8.4: Length of blanks: %d", n)
	}
	if n := row.Length(row.New(api.MaxCols, ground)); n != api.MaxCols {
		t.Errorf("P8.4: Length of blanks by a pen: %d", n)
	}
}

func TestLetters(t *testing.T) {
	r := row.Mark(row.Mark(row.Mark(read("a<>.b<>"), 0, 0x301), 0, 0x302), 5, 0x303)
	for _, y := range []struct {
		from, to int
		want     []int
	}{
		{0, 7, []int{'a', 0x301, 0x302, 0x4E01, ' ', 'b', 0x4E05, 0x303}},
		{-9, 99, []int{'a', 0x301, 0x302, 0x4E01, ' ', 'b', 0x4E05, 0x303}},
		{0, 1, []int{'a', 0x301, 0x302}},
		{1, 2, []int{0x4E01}},
		{2, 3, nil},
		{2, 4, []int{' '}},
		{1, 4, []int{0x4E01, ' '}},
		{3, 3, nil},
		{4, 3, nil},
		{7, 9, nil},
		{6, 99, nil},
		{5, 99, []int{0x4E05, 0x303}},
		{-9, -1, nil},
		{-9, 0, nil},
		{99, -9, nil},
		{far[0], far[len(far)-1], []int{'a', 0x301, 0x302, 0x4E01, ' ', 'b', 0x4E05, 0x303}},
		{far[len(far)-1], far[0], nil},
	} {
		if l := row.Letters(r, y.from, y.to); !slices.Equal(l, y.want) {
			t.Errorf("P8.4: Letters(%d, %d): %x, not %x", y.from, y.to, l, y.want)
		}
	}
	if l := row.Letters(api.Row{Cells: []api.Cell{{R: ' ', W: 1}, {W: 1}, {R: api.MaxRune, W: 1}, {R: 1, W: 1}}}, 0, 4); !slices.Equal(l, []int{' ', ' ', api.MaxRune, 1}) {
		t.Errorf("P8.4: %x", l)
	}
}

// TestToldOfAll asks P8.4 of all short rows, and all places, against the chapter written out anew.
func TestToldOfAll(t *testing.T) {
	for _, r := range short(5) {
		for bare := range 1 << len(r.Cells) {
			u := twin(r)
			for k := range u.Cells {
				if bare>>k&1 == 1 {
					u.Cells[k].Pen = api.Pen{}
				}
			}
			if n, want := row.Length(u), length(u); n != want {
				t.Fatalf("P8.4: Length of %q: %d, not %d", shown(u), n, want)
			}
		}
		for _, from := range places(len(r.Cells)) {
			for _, to := range places(len(r.Cells)) {
				if l, want := row.Letters(r, from, to), letters(r, from, to); !slices.Equal(l, want) {
					t.Fatalf("P8.4: Letters(%d, %d) of %q: %x, not %x", from, to, shown(r), l, want)
				}
			}
		}
	}
}
