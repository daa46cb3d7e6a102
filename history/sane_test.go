package history_test

import (
	"slices"
	"testing"

	"lapwing/api"
	"lapwing/history"
)

func TestNew(t *testing.T) {
	for _, y := range []struct{ c, want int }{
		{0, 0}, {1, 1}, {2, 2}, {100, 100}, {199, 199}, {200, 200}, {201, 200}, {256, 200}, {999, 200}, {-1, 0}, {-200, 0},
		{far[0], 0}, {-1<<32 + 1, 0}, {1 << 16, 200}, {1 << 32, 200}, {1<<32 + 1, 200}, {far[len(far)-1], 200},
	} {
		if k := history.New(y.c); k.Cap != y.want || len(k.Rows) != 0 || !history.Sane(k) {
			t.Errorf("P10.1: New(%d): %+v, Sane is %v", y.c, k, history.Sane(k))
		}
	}
}

func TestSane(t *testing.T) {
	for most := 0; most <= 5; most++ {
		for n := range most + 1 {
			if !history.Sane(kept(letters(n), most)) {
				t.Errorf("P10.1: %d rows of %d: not Sane", n, most)
			}
		}
	}
	for _, n := range []int{0, 1, 199, 200} {
		if !history.Sane(history.Kept{Rows: many(n), Cap: 200}) {
			t.Errorf("P10.1: %d rows of 200: not Sane", n)
		}
	}
	if !history.Sane(history.Kept{}) || !history.Sane(history.Kept{Rows: []api.Row{}, Cap: 1}) {
		t.Error("P10.1: no rows: not Sane")
	}
	for _, y := range faults() {
		if history.Sane(y.k) {
			t.Errorf("P10.1: %s: Sane, %q of %d", y.name, shown(y.k.Rows), y.k.Cap)
		}
	}
}

// TestSaneOfLists asks P10.1 of all short lists of rows, some of which may not be, against the chapter written out anew.
func TestSaneOfLists(t *testing.T) {
	some := slices.Concat(badRows()[:4], read("abc"))
	var ask func([]api.Row)
	ask = func(l []api.Row) {
		for most := -1; most <= 5; most++ {
			k := history.Kept{Rows: l, Cap: most}
			if want := mayBe(k); history.Sane(k) != want {
				t.Fatalf("P10.1: Sane is %v of %+v", !want, k)
			}
		}
		if len(l) == 4 {
			return
		}
		for _, r := range some {
			ask(append(slices.Clip(l), r))
		}
	}
	ask(nil)
}

// TestWhatIsNotSane asks for nothing of what may not be, whatever is done to it.
func TestWhatIsNotSane(t *testing.T) {
	for _, y := range faults() {
		for _, l := range [][]api.Row{nil, read("x"), read("xyz"), many(201)} {
			if u := history.Push(y.k, l); !sameKept(u, history.Kept{}) {
				t.Errorf("P10.1: %s: Push of %d rows: %q of %d", y.name, len(l), shown(u.Rows), u.Cap)
			}
		}
		for _, n := range places(len(y.k.Rows)) {
			if u, taken := history.Take(y.k, n); !sameKept(u, history.Kept{}) || len(taken) != 0 {
				t.Errorf("P10.1: %s: Take of %d: %q of %d, %q taken", y.name, n, shown(u.Rows), u.Cap, shown(taken))
			}
			if r, ok := history.At(y.k, n); ok || !sameRow(r, api.Row{}) {
				t.Errorf("P10.1: %s: At %d: %q, %v", y.name, n, shown([]api.Row{r}), ok)
			}
			if l := history.Window(y.k, gridOf("uv"), n); len(l) != 0 {
				t.Errorf("P10.1: %s: Window at %d: %d rows", y.name, n, len(l))
			}
		}
		if n := history.Cells(y.k); n != 0 {
			t.Errorf("P10.1: %s: %d cells", y.name, n)
		}
	}
}
