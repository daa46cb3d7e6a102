package history_test

import (
	"testing"

	"lapwing/api"
	"lapwing/history"
)

// TestExample is the chapter's first one.
func TestExample(t *testing.T) {
	if k := history.Push(history.New(2), read("abc")); shown(k.Rows) != "bc" || k.Cap != 2 {
		t.Errorf("P10.2: %q", shown(k.Rows))
	}
}

func TestPush(t *testing.T) {
	for _, y := range []struct {
		had        string
		most       int
		push, want string
	}{
		{"", 0, "", ""}, {"", 0, "a", ""}, {"", 0, "abc", ""}, {"", 1, "a", "a"}, {"", 1, "ab", "b"}, {"a", 1, "", "a"}, {"a", 1, "b", "b"},
		{"a", 1, ".", "a"}, {"a", 1, "b.", "b"}, {"a", 1, ".b..", "b"}, {"a", 1, "bcd", "d"},
		{"abc", 5, "", "abc"}, {"abc", 5, "d", "abcd"}, {"abc", 5, "de", "abcde"}, {"abc", 5, "def", "bcdef"}, {"abc", 5, "defg", "cdefg"},
		{"abc", 5, "defgh", "defgh"}, {"abc", 5, "defghi", "efghi"}, {"abc", 5, "defghijkl", "hijkl"},
		{"abc", 3, "d", "bcd"}, {"abc", 3, "de", "cde"}, {"abc", 3, "def", "def"}, {"abc", 3, "defg", "efg"},
		{"abc", 5, ".", "abc"}, {"abc", 5, ".....", "abc"}, {"abc", 5, "d.e.", "abcde"}, {"abc", 5, "..d..e..f", "bcdef"},
		{"abc", 3, "....", "abc"}, {"abc", 3, "d....", "bcd"}, {"abc", 3, "....d", "bcd"}, {"abc", 3, "d.e.f.g", "efg"},
		{"aab", 4, "ba", "abba"},
	} {
		u := history.Push(kept(y.had, y.most), read(y.push))
		want := kept(y.want, y.most)
		if !sameKept(u, want) || !history.Sane(u) {
			t.Errorf("P10.2: %q of %d, and %q: %q of %d, not %q", y.had, y.most, y.push, shown(u.Rows), u.Cap, y.want)
		}
	}
}

// TestPushOfAll asks P10.2 of all short lists of rows, of which some may not be, against the chapter written out anew, and P10.4 of what comes.
func TestPushOfAll(t *testing.T) {
	for most := range 6 {
		for had := range most + 1 {
			k := kept(letters(had), most)
			for n := range 8 {
				for bad := range 1 << n {
					s := []byte(letters(12)[12-n:])
					for at := range s {
						if bad>>at&1 == 1 {
							s[at] = '.'
						}
					}
					l := read(string(s))
					u, want := history.Push(k, l), push(k, l)
					if !sameKept(u, want) {
						t.Fatalf("P10.2: %d rows of %d, and %q: %q of %d, not %q", had, most, s, shown(u.Rows), u.Cap, shown(want.Rows))
					}
					if !history.Sane(u) {
						t.Fatalf("P10.4: %d rows of %d, and %q: %q", had, most, s, shown(u.Rows))
					}
				}
			}
		}
	}
}

func TestPushAtItsGreatest(t *testing.T) {
	l := many(3000)
	for _, had := range []int{0, 1, 199, 200} {
		for _, n := range []int{0, 1, 2, 199, 200, 201, 1000, 2800} {
			u := history.Push(history.Kept{Rows: l[:had], Cap: api.MaxKept}, l[had:had+n])
			if want := l[max(0, had+n-api.MaxKept) : had+n]; !same(u.Rows, want) || u.Cap != api.MaxKept || !history.Sane(u) {
				t.Errorf("P10.2: %d rows, and %d: %d rows", had, n, len(u.Rows))
			}
		}
	}
}

// TestPushStepByStep asks that rows pushed one by one are as those pushed at once.
func TestPushStepByStep(t *testing.T) {
	for most := range 6 {
		for from := range 8 {
			l := read("ab.cd.ef")
			u := history.Push(history.New(most), l[:from])
			for _, r := range l[from:] {
				u = history.Push(u, []api.Row{r})
			}
			if want := history.Push(history.New(most), l); !sameKept(u, want) {
				t.Errorf("P10.2: room for %d, one by one from %d on: %q, not %q", most, from, shown(u.Rows), shown(want.Rows))
			}
		}
	}
}
