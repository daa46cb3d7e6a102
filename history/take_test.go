package history_test

import (
	"testing"

	"lapwing/api"
	"lapwing/history"
)

func TestTake(t *testing.T) {
	for _, y := range []struct {
		had         string
		n           int
		left, taken string
	}{
		{"", 0, "", ""}, {"", 1, "", ""}, {"", -1, "", ""}, {"", far[0], "", ""}, {"", far[len(far)-1], "", ""},
		{"a", 0, "a", ""}, {"a", 1, "", "a"}, {"a", 2, "", "a"},
		{"abcd", -2, "abcd", ""}, {"abcd", -1, "abcd", ""}, {"abcd", 0, "abcd", ""}, {"abcd", 1, "abc", "d"}, {"abcd", 2, "ab", "cd"},
		{"abcd", 3, "a", "bcd"}, {"abcd", 4, "", "abcd"}, {"abcd", 5, "", "abcd"}, {"abcd", 200, "", "abcd"}, {"abcd", 201, "", "abcd"},
		{"abcd", far[0], "abcd", ""}, {"abcd", far[0] + 1, "abcd", ""}, {"abcd", -1<<32 + 1, "abcd", ""},
		{"abcd", 1 << 32, "", "abcd"}, {"abcd", 1<<32 + 1, "", "abcd"}, {"abcd", far[len(far)-1], "", "abcd"},
	} {
		u, taken := history.Take(kept(y.had, 6), y.n)
		if !sameKept(u, kept(y.left, 6)) || !same(taken, read(y.taken)) {
			t.Errorf("P10.2: %d of %q: %q of %d is left, %q taken, not %q, %q", y.n, y.had, shown(u.Rows), u.Cap, shown(taken), y.left, y.taken)
		}
	}
}

// TestTakeOfAll asks P10.2 of lists of no to six rows, and all places, against the chapter written out anew.
func TestTakeOfAll(t *testing.T) {
	for most := range 7 {
		for had := range most + 1 {
			k := kept(letters(had), most)
			for _, n := range places(most) {
				u, taken := history.Take(k, n)
				want, rows := take(k, n)
				if !sameKept(u, want) || !same(taken, rows) || !history.Sane(u) {
					t.Fatalf("P10.2: %d of %q: %q of %d is left, %q taken", n, shown(k.Rows), shown(u.Rows), u.Cap, shown(taken))
				}
			}
		}
	}
}

func TestTakeAtItsGreatest(t *testing.T) {
	l := many(api.MaxKept)
	for n := range api.MaxKept + 2 {
		u, taken := history.Take(history.Kept{Rows: l, Cap: api.MaxKept}, n)
		at := max(0, api.MaxKept-n)
		if !same(u.Rows, l[:at]) || !same(taken, l[at:]) || u.Cap != api.MaxKept {
			t.Fatalf("P10.2: %d of 200: %d rows are left, %d taken", n, len(u.Rows), len(taken))
		}
	}
}

func TestAt(t *testing.T) {
	for n, want := range []string{"d", "c", "b", "a"} {
		if r, ok := history.At(kept("abcd", 6), n); !ok || !sameRow(r, read(want)[0]) {
			t.Errorf("P10.2: %d from the last one: %+v, %v", n, r, ok)
		}
	}
	for had := range 5 {
		k := kept(letters(had), 4)
		for _, n := range places(had) {
			r, ok := history.At(k, n)
			want, is := rowAt(k, n)
			if ok != is || ok != (n >= 0 && n < had) || !sameRow(r, want) {
				t.Errorf("P10.2: %d from the last one of %d: %+v, %v", n, had, r, ok)
			}
		}
	}
	l := many(api.MaxKept)
	for n := range l {
		if r, ok := history.At(history.Kept{Rows: l, Cap: api.MaxKept}, n); !ok || r.Cells[0].R != 0x1000+199-n {
			t.Fatalf("P10.2: %d from the last one of 200: %+v, %v", n, r, ok)
		}
	}
}

// TestTakenAgain asks P10.4: what was pushed is taken again, as far as there was room, and there is what there was ahead of it.
func TestTakenAgain(t *testing.T) {
	for most := range 7 {
		for had := range most + 1 {
			for n := range 9 {
				k, l := kept(letters(had), most), read("zyxwvuts"[:n])
				u := history.Push(k, l)
				left, taken := history.Take(u, n)
				room := min(n, most)
				if !same(taken, l[n-room:]) {
					t.Errorf("P10.4: %q pushed, room for %d: %q taken", shown(l), most, shown(taken))
				}
				if gone := max(0, min(had, had+n-most)); !sameKept(left, history.Kept{Rows: k.Rows[gone:], Cap: most}) {
					t.Errorf("P10.4: %q, and %q taken again: %q of %d", shown(k.Rows), shown(l), shown(left.Rows), left.Cap)
				}
				if again := history.Push(left, taken); !sameKept(again, u) {
					t.Errorf("P10.4: %q taken, and pushed again: %q, not %q", shown(taken), shown(again.Rows), shown(u.Rows))
				}
			}
		}
	}
}

// TestSteps asks P10.4 of a long way of pushes and takes, against the chapter written out anew.
func TestSteps(t *testing.T) {
	for _, most := range []int{0, 1, 2, 7, 199, 200} {
		k, want := history.New(most), history.Kept{Cap: most}
		seed, next := 1, 0
		for step := range 600 {
			seed = (seed*25173 + 13849) % 65536
			n := seed >> 4 % 9
			if seed%3 == 0 {
				var taken, rows []api.Row
				k, taken = history.Take(k, n)
				want, rows = take(want, n)
				if !same(taken, rows) {
					t.Fatalf("P10.4: room for %d, step %d: %q taken, not %q", most, step, shown(taken), shown(rows))
				}
			} else {
				l := many(next + n)[next:]
				next += n
				k, want = history.Push(k, l), push(want, l)
			}
			if !sameKept(k, want) || !history.Sane(k) || len(k.Rows) > most {
				t.Fatalf("P10.4: room for %d, step %d: %q, not %q", most, step, shown(k.Rows), shown(want.Rows))
			}
		}
	}
}
