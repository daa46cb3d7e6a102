package row_test

import (
	"slices"
	"testing"

	"lapwing/api"
	"lapwing/row"
)

func TestErase(t *testing.T) {
	for _, y := range []struct {
		s        string
		from, to int
		want     string
	}{
		{"abcd", 1, 3, "a..d 0__3"},
		{"abcd", 0, 4, ".... ____"},
		{"abcd", 0, 1, ".bcd _123"},
		{"abcd", 3, 4, "abc. 012_"},
		{"abcd", 2, 2, "abcd 0123"},
		{"abcd", 3, 1, "abcd 0123"},
		{"abcd", -9, 2, "..cd __23"},
		{"abcd", 2, 99, "ab.. 01__"},
		{"abcd", -9, 99, ".... ____"},
		{"abcd", -9, -1, "abcd 0123"},
		{"abcd", -9, 0, "abcd 0123"},
		{"abcd", 4, 9, "abcd 0123"},
		{"abcd", 9, -9, "abcd 0123"},
		{"a<>b", 1, 2, "a..b 0_23"},
		{"a<>b", 2, 3, "a..b 01_3"},
		{"a<>b", 0, 2, "...b __23"},
		{"a<>b", 2, 4, "a... 01__"},
		{"a<>b", 2, 2, "a<>b 0123"},
		{"<><>", 1, 3, ".... 0__3"},
		{"<><>", 2, 4, "<>.. 01__"},
	} {
		r := read(y.s)
		is := row.Erase(r, y.from, y.to, ground)
		if shown(is) != y.want || is.Wrap != r.Wrap || is.Dir != r.Dir || is.Explicit != r.Explicit {
			t.Errorf("P8.3: Erase(%d, %d) of %q: %q, not %q", y.from, y.to, y.s, shown(is), y.want)
		}
	}
}

func TestInsert(t *testing.T) {
	for _, y := range []struct {
		s            string
		at, n, right int
		want         string
	}{
		{"abcd", 0, 1, 4, ".abc _012"},
		{"abcd", 1, 2, 4, "a..b 0__1"},
		{"abcd", 1, 2, 3, "a..d 0__3"},
		{"abcd", 1, 1, 3, "a.bd 0_13"},
		{"abcd", 3, 1, 4, "abc. 012_"},
		{"abcd", 0, 4, 4, ".... ____"},
		{"abcd", 1, 99, 3, "a..d 0__3"},
		{"abcd", 1, 0, 3, "abcd 0123"},
		{"abcd", 1, -5, 3, "abcd 0123"},
		{"abcd", -1, 1, 3, "abcd 0123"},
		{"abcd", 3, 1, 3, "abcd 0123"},
		{"abcd", 3, 1, 2, "abcd 0123"},
		{"abcd", 1, 1, 5, "abcd 0123"},
		{"abcd", 4, 1, 4, "abcd 0123"},
		{"abcd", 4, 1, 5, "abcd 0123"},
		{"a<>b", 1, 1, 4, "a.<> 0_12"},
		{"a<>b", 0, 1, 3, ".a.b _013"},
		{"a<>b", 2, 1, 4, "a... 01_2"},
		{"a<>b", 1, 2, 4, "a... 0__1"},
		{"a<>b", 0, 1, 2, ".a.b _023"},
		{"<>ab", 1, 1, 3, "...b 0_13"},
		// What comes to stand ahead of a half is as the half's own.
		{"<><>", 0, 2, 3, "..<> __03"},
	} {
		r := read(y.s)
		is := row.Insert(r, y.at, y.n, y.right, ground)
		if shown(is) != y.want || is.Wrap != r.Wrap || is.Dir != r.Dir || is.Explicit != r.Explicit {
			t.Errorf("P8.3: Insert(%d, %d, %d) into %q: %q, not %q", y.at, y.n, y.right, y.s, shown(is), y.want)
		}
	}
}

func TestDelete(t *testing.T) {
	for _, y := range []struct {
		s            string
		at, n, right int
		want         string
	}{
		{"abcd", 0, 1, 4, "bcd. 123_"},
		{"abcd", 1, 2, 4, "ad.. 03__"},
		{"abcd", 1, 2, 3, "a..d 0__3"},
		{"abcd", 1, 1, 3, "ac.d 02_3"},
		{"abcd", 3, 1, 4, "abc. 012_"},
		{"abcd", 0, 4, 4, ".... ____"},
		{"abcd", 1, 99, 3, "a..d 0__3"},
		{"abcd", 1, 0, 3, "abcd 0123"},
		{"abcd", 1, -5, 3, "abcd 0123"},
		{"abcd", -1, 1, 3, "abcd 0123"},
		{"abcd", 3, 1, 3, "abcd 0123"},
		{"abcd", 3, 1, 2, "abcd 0123"},
		{"abcd", 1, 1, 5, "abcd 0123"},
		{"abcd", 4, 1, 4, "abcd 0123"},
		{"abcd", 4, 1, 5, "abcd 0123"},
		{"a<>b", 0, 1, 4, "<>b. 123_"},
		{"a<>b", 1, 1, 4, "a.b. 023_"},
		{"a<>b", 2, 1, 4, "a.b. 013_"},
		{"a<>b", 1, 2, 4, "ab.. 03__"},
		{"a<>b", 0, 1, 2, "...b 1_23"},
		{"a<>b", 0, 2, 3, "...b 2__3"},
		// What comes to stand behind a wide one is as its own half.
		{"<><>", 1, 2, 4, "<>.. 03__"},
	} {
		r := read(y.s)
		is := row.Delete(r, y.at, y.n, y.right, ground)
		if shown(is) != y.want || is.Wrap != r.Wrap || is.Dir != r.Dir || is.Explicit != r.Explicit {
			t.Errorf("P8.3: Delete(%d, %d, %d) of %q: %q, not %q", y.at, y.n, y.right, y.s, shown(is), y.want)
		}
	}
}

func TestFit(t *testing.T) {
	for _, y := range []struct {
		s    string
		w    int
		want string
	}{
		{"abc", 3, "abc 012"},
		{"abc", 2, "ab 01"},
		{"abc", 1, "a 0"},
		{"abc", 0, "a 0"},
		{"abc", -7, "a 0"},
		{"abc", 5, "abc.. 012__"},
		{"a<>", 2, "a. 01"},
		{"a<>", 1, "a 0"},
		{"<>", 1, ". 0"},
		{"a<>", 4, "a<>. 012_"},
		{"<><>", 3, "<>. 012"},
	} {
		r := read(y.s)
		is := row.Fit(r, y.w, ground)
		if shown(is) != y.want || is.Wrap != r.Wrap || is.Dir != r.Dir || is.Explicit != r.Explicit {
			t.Errorf("P8.3: Fit of %q to %d: %q, not %q", y.s, y.w, shown(is), y.want)
		}
	}
	for w, want := range map[int]int{4095: 4095, 4096: 4096, 4097: 4096, far[0]: 1, 1 << 32: 4096, far[len(far)-1]: 4096} {
		r := row.Fit(read("a<>"), w, ground)
		if len(r.Cells) != want || !row.Sane(r) || !same(r, fitted(read("a<>"), w, ground)) {
			t.Errorf("P8.3: Fit to %d: %d cells", w, len(r.Cells))
		}
	}
}

// TestPensThatMayNotBe asks P8.3 for the row itself.
func TestPensThatMayNotBe(t *testing.T) {
	r := read("a<>b.")
	for _, p := range badPens {
		for name, is := range map[string]api.Row{
			"Erase":             row.Erase(r, 1, 3, p),
			"Erase of nothing":  row.Erase(r, 3, 3, p),
			"Insert":            row.Insert(r, 1, 2, 4, p),
			"Insert of nothing": row.Insert(r, 1, 0, 4, p),
			"Delete":            row.Delete(r, 1, 2, 4, p),
			"Delete of nothing": row.Delete(r, 1, 0, 4, p),
			"Fit":               row.Fit(r, 9, p),
			"Fit to less":       row.Fit(r, 2, p),
		} {
			if !same(is, r) {
				t.Errorf("P8.3: %s by %+v: %+v", name, p, is)
			}
		}
	}
}

// stays holds P8.5 of what was made of r: it is Sane, of r's width, and from and to hold all that is of other cells, but for halves.
func stays(t *testing.T, name string, r, is api.Row, from, to int) {
	t.Helper()
	if !row.Sane(is) || len(is.Cells) != len(r.Cells) || is.Wrap != r.Wrap || is.Dir != r.Dir || is.Explicit != r.Explicit {
		t.Fatalf("P8.5: %s of %q: %+v", name, shown(r), is)
	}
	for k, c := range is.Cells {
		if k >= from && k < to || c == r.Cells[k] {
			continue
		}
		if r.Cells[k].W == 1 || c != blank(r.Cells[k].Pen) || k != from-1 && k != to {
			t.Fatalf("P8.5: %s of %q: the cell %d is %+v", name, shown(r), k, c)
		}
	}
}

// TestEraseOfAll asks P8.3 and P8.5 of all short rows, and all places, against the chapter written out anew.
func TestEraseOfAll(t *testing.T) {
	for _, r := range short(5) {
		for _, from := range places(len(r.Cells)) {
			for _, to := range places(len(r.Cells)) {
				is, want := row.Erase(r, from, to, ground), erased(r, from, to, ground)
				if !same(is, want) {
					t.Fatalf("P8.3: Erase(%d, %d) of %q: %q, not %q", from, to, shown(r), shown(is), shown(want))
				}
				if from < to {
					stays(t, "Erase", r, is, max(from, 0), min(to, len(r.Cells)))
				}
			}
		}
	}
}

// TestInsertAndDeleteOfAll asks P8.3 and P8.5 of all short rows, and all places, against the chapter written out anew.
func TestInsertAndDeleteOfAll(t *testing.T) {
	numbers := slices.Concat(far[:2], far[len(far)-2:], []int{1 << 32, -1, 0, 1, 2, 3, 4, 5, 6})
	for _, r := range short(4) {
		for _, at := range places(len(r.Cells)) {
			for _, right := range places(len(r.Cells)) {
				for _, n := range numbers {
					is, want := row.Insert(r, at, n, right, ground), inserted(r, at, n, right, ground)
					if !same(is, want) {
						t.Fatalf("P8.3: Insert(%d, %d, %d) into %q: %q, not %q", at, n, right, shown(r), shown(is), shown(want))
					}
					stays(t, "Insert", r, is, at, right)
					is, want = row.Delete(r, at, n, right, ground), deleted(r, at, n, right, ground)
					if !same(is, want) {
						t.Fatalf("P8.3: Delete(%d, %d, %d) of %q: %q, not %q", at, n, right, shown(r), shown(is), shown(want))
					}
					stays(t, "Delete", r, is, at, right)
				}
			}
		}
	}
}

// TestFitOfAll asks P8.3 and P8.5 of all short rows against the chapter written out anew.
func TestFitOfAll(t *testing.T) {
	for _, r := range short(5) {
		for w := -2; w <= 9; w++ {
			is, want := row.Fit(r, w, ground), fitted(r, w, ground)
			if !same(is, want) || !row.Sane(is) {
				t.Fatalf("P8.3: Fit of %q to %d: %q, not %q", shown(r), w, shown(is), shown(want))
			}
		}
	}
}

// TestLongRows asks P8.3 of a row as long as one may be.
func TestLongRows(t *testing.T) {
	r := row.New(api.MaxCols, api.Pen{})
	for k := range r.Cells {
		r.Cells[k] = api.Cell{R: k + 1, W: 1, Pen: api.Pen{Fg: k % 200}}
	}
	for _, y := range []struct{ at, n, right int }{{0, 1, 4096}, {1, 4095, 4096}, {4095, 1, 4096}, {100, 1000, 3000}, {0, 4096, 4096}, {4095, 2, 4097}, {0, 2048, 4095}} {
		if is := row.Insert(r, y.at, y.n, y.right, ground); !same(is, inserted(r, y.at, y.n, y.right, ground)) {
			t.Errorf("P8.3: Insert(%d, %d, %d) into a long row", y.at, y.n, y.right)
		}
		if is := row.Delete(r, y.at, y.n, y.right, ground); !same(is, deleted(r, y.at, y.n, y.right, ground)) {
			t.Errorf("P8.3: Delete(%d, %d, %d) of a long row", y.at, y.n, y.right)
		}
		if is := row.Erase(r, y.at, y.right, ground); !same(is, erased(r, y.at, y.right, ground)) {
			t.Errorf("P8.3: Erase(%d, %d) of a long row", y.at, y.right)
		}
		if is := row.Put(r, y.right-2, wide); !same(is, put(r, y.right-2, wide)) {
			t.Errorf("P8.2: Put at %d of a long row", y.right-2)
		}
	}
}
