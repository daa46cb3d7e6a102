package row_test

import (
	"slices"
	"testing"

	"lapwing/api"
	"lapwing/row"
)

// roomy is r with room behind its last cell, in which something lies.
func roomy(r api.Row) api.Row {
	cells := append(make([]api.Cell, 0, len(r.Cells)+6), r.Cells...)
	for k := len(cells); k < cap(cells); k++ {
		cells[:cap(cells)][k] = api.Cell{R: 'z', W: k % 3}
	}
	r.Cells = cells
	return r
}

// all are what every call makes of a row at a place.
func all(r api.Row, at int) []api.Row {
	return []api.Row{
		row.Mend(r),
		row.Put(r, at, x),
		row.Put(r, at, wide),
		row.Mark(r, at, 0x301),
		row.Erase(r, at, at+2, ground),
		row.Erase(r, 0, at, ground),
		row.Insert(r, at, 1, len(r.Cells), ground),
		row.Insert(r, 0, 2, at, ground),
		row.Delete(r, at, 1, len(r.Cells), ground),
		row.Delete(r, 0, 2, at, ground),
		row.Fit(r, at, ground),
		row.Fit(r, len(r.Cells)+at, ground),
	}
}

// TestWhatIsHandedIn asks R3 of a row, with what lies behind its end, and that nothing behind an end is read.
func TestWhatIsHandedIn(t *testing.T) {
	rows := short(4)
	for _, y := range faults() {
		if len(y.r.Cells) < api.MaxCols {
			rows = append(rows, y.r)
		}
	}
	for _, r := range rows {
		had := roomy(r)
		was := slices.Clone(had.Cells[:cap(had.Cells)])
		for at := -1; at <= len(r.Cells)+1; at++ {
			want := all(twin(r), at)
			for k, is := range all(had, at) {
				if !same(is, want[k]) {
					t.Fatalf("R3: %d at %d of %q: %q, and %q with room behind it", k, at, shown(r), shown(want[k]), shown(is))
				}
			}
			if row.Length(had) != row.Length(r) || !slices.Equal(row.Letters(had, 0, at), row.Letters(r, 0, at)) || row.Sane(had) != row.Sane(r) {
				t.Fatalf("R3: what is told of %q, with room behind it", shown(r))
			}
			if now := had.Cells[:cap(had.Cells)]; !slices.Equal(now, was) {
				t.Fatalf("R3: at %d: %+v is now %+v", at, was, now)
			}
		}
	}
}

// TestWhatWasAnswered asks R3 of answers: what is made of them later on leaves them as they are.
func TestWhatWasAnswered(t *testing.T) {
	for _, r := range short(3) {
		var told, was []api.Row
		keep := func(l []api.Row) {
			for _, u := range l {
				told = append(told, u)
				was = append(was, twin(u))
			}
		}
		for first := -1; first <= len(r.Cells); first++ {
			l := all(roomy(r), first)
			keep(l)
			for _, u := range l {
				for second := -1; second <= len(u.Cells); second++ {
					keep(all(u, second))
				}
			}
		}
		for k := range told {
			if !same(told[k], was[k]) {
				t.Fatalf("R3: %q: %+v is now %+v", shown(r), was[k], told[k])
			}
		}
	}
}

// TestLettersTellsNewMemory asks that two answers share no memory.
func TestLettersTellsNewMemory(t *testing.T) {
	r := read("a<>.b")
	a, b := row.Letters(r, 0, 5), row.Letters(r, 0, 5)
	for k := range cap(a) {
		a[:cap(a)][k] = 777
	}
	if want := letters(r, 0, 5); !slices.Equal(b, want) || !slices.Equal(row.Letters(r, 0, 5), want) {
		t.Errorf("R3: %x, not %x", b, want)
	}
}
