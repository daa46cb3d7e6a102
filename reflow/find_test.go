package reflow_test

import (
	"testing"

	"lapwing/api"
	"lapwing/reflow"
)

func TestFind(t *testing.T) {
	for _, y := range []struct {
		l     string
		y, at int
		want  reflow.Place
		ok    bool
	}{
		{"abc", 0, 0, reflow.Place{}, true},
		{"abc", 0, 2, reflow.Place{Line: 0, At: 2}, true},
		{"abc", 0, 3, reflow.Place{}, false},
		{"abc", 0, -1, reflow.Place{}, false},
		{"abc", 1, 0, reflow.Place{}, false},
		{"abc", -1, 0, reflow.Place{}, false},
		{"abc|de", 1, 1, reflow.Place{Line: 1, At: 1}, true},
		{"abc|de", 1, 2, reflow.Place{}, false},
		{"abc+|de", 1, 1, reflow.Place{Line: 0, At: 4}, true},
		{"abc+|de+", 1, 1, reflow.Place{Line: 0, At: 4}, true},
		{"abc+|de+|f", 2, 0, reflow.Place{Line: 0, At: 5}, true},
		{"a|bc+|de+|f|g", 3, 0, reflow.Place{Line: 1, At: 4}, true},
		{"a|bc+|de+|f|g", 4, 0, reflow.Place{Line: 2, At: 0}, true},
		{"..|..|..", 2, 1, reflow.Place{Line: 2, At: 1}, true},
		{"..+|..|..", 1, 1, reflow.Place{Line: 0, At: 3}, true},
		// Halves are places, too.
		{"<>", 0, 1, reflow.Place{Line: 0, At: 1}, true},
		{"<>+|<>", 1, 1, reflow.Place{Line: 0, At: 3}, true},
		// What is left over is no room, but a place in its own row.
		{"a.+|<>", 0, 1, reflow.Place{Line: 0, At: 1}, true},
		{"a.+|<>", 1, 0, reflow.Place{Line: 0, At: 1}, true},
		{"a.+|<>", 1, 1, reflow.Place{Line: 0, At: 2}, true},
		{"a.+|<>.+|<>", 2, 0, reflow.Place{Line: 0, At: 3}, true},
		{".+|.+|<>", 2, 0, reflow.Place{Line: 0, At: 1}, true},
		{"a_+|<>", 1, 0, reflow.Place{Line: 0, At: 2}, true},
		{"a.+|b", 1, 0, reflow.Place{Line: 0, At: 2}, true},
		{"a.+|.<>", 1, 0, reflow.Place{Line: 0, At: 2}, true},
		{"a.|<>", 1, 0, reflow.Place{Line: 1, At: 0}, true},
	} {
		if p, ok := reflow.Find(read(y.l), y.y, y.at); p != y.want || ok != y.ok {
			t.Errorf("P11.3: %q at %d, %d: %+v, %v, not %+v, %v", y.l, y.y, y.at, p, ok, y.want, y.ok)
		}
	}
}

// TestFindOfAll asks P11.3 of all short lists of rows, at each place and next to them, against the chapter written out anew.
func TestFindOfAll(t *testing.T) {
	for _, s := range manyLists() {
		l := read(s)
		for y := -1; y <= len(l); y++ {
			for at := -1; at <= 5; at++ {
				p, ok := reflow.Find(l, y, at)
				if want, wantOK := find(l, y, at); p != want || ok != wantOK {
					t.Fatalf("P11.3: %q at %d, %d: %+v, %v, not %+v, %v", s, y, at, p, ok, want, wantOK)
				}
			}
		}
	}
}

// TestFindFarAway asks P11.3 of places far away, and of no rows.
func TestFindFarAway(t *testing.T) {
	for _, l := range [][]api.Row{nil, {}, read("a.+|<>+|b.|c.")} {
		for _, y := range places(len(l)) {
			for _, at := range places(2) {
				p, ok := reflow.Find(l, y, at)
				if want, wantOK := find(l, y, at); p != want || ok != wantOK {
					t.Errorf("P11.3: %q at %d, %d: %+v, %v", shown(l), y, at, p, ok)
				}
			}
		}
	}
	l := many(100, api.MaxCols)
	if p, ok := reflow.Find(l, 99, 4095); p != (reflow.Place{Line: 0, At: 100*4096 - 1}) || !ok {
		t.Errorf("P11.3: %+v, %v", p, ok)
	}
}

func TestWhere(t *testing.T) {
	for _, y := range []struct {
		l     string
		w     int
		p     reflow.Place
		y, at int
		ok    bool
	}{
		{"abc", 2, reflow.Place{}, 0, 0, true},
		{"abc", 2, reflow.Place{Line: 0, At: 1}, 0, 1, true},
		{"abc", 2, reflow.Place{Line: 0, At: 2}, 1, 0, true},
		{"abc", 2, reflow.Place{Line: 0, At: 3}, 1, 1, true},
		{"abc", 2, reflow.Place{Line: 0, At: 4}, 1, 1, true},
		{"abc", 2, reflow.Place{Line: 0, At: 99}, 1, 1, true},
		{"abc", 2, reflow.Place{Line: 0, At: -1}, 0, 0, false},
		{"abc", 2, reflow.Place{Line: 1, At: 0}, 0, 0, false},
		{"abc", 2, reflow.Place{Line: -1, At: 0}, 0, 0, false},
		{"abcd", 2, reflow.Place{Line: 0, At: 4}, 1, 1, true},
		{"", 3, reflow.Place{Line: 0, At: 2}, 0, 2, true},
		{"", 3, reflow.Place{Line: 0, At: 3}, 0, 2, true},
		{"abc||de", 2, reflow.Place{Line: 1, At: 0}, 2, 0, true},
		{"abc||de", 2, reflow.Place{Line: 1, At: 9}, 2, 1, true},
		{"abc||de", 2, reflow.Place{Line: 2, At: 1}, 3, 1, true},
		{"abc||de", 2, reflow.Place{Line: 2, At: 9}, 3, 1, true},
		{"abc||de", 2, reflow.Place{Line: 3, At: 0}, 0, 0, false},
		// What is left over has no place.
		{"a<b", 2, reflow.Place{Line: 0, At: 0}, 0, 0, true},
		{"a<b", 2, reflow.Place{Line: 0, At: 1}, 1, 0, true},
		{"a<b", 2, reflow.Place{Line: 0, At: 2}, 1, 1, true},
		{"a<b", 2, reflow.Place{Line: 0, At: 3}, 2, 0, true},
		{"a<b", 2, reflow.Place{Line: 0, At: 4}, 2, 1, true},
		{"a<b", 2, reflow.Place{Line: 0, At: 5}, 2, 1, true},
		{"a_<", 2, reflow.Place{Line: 0, At: 1}, 0, 1, true},
		{"a_<", 2, reflow.Place{Line: 0, At: 2}, 1, 0, true},
		// A blank by Pen{} ahead of a wide one that begins a row is as what is left over.
		{"a.<", 2, reflow.Place{Line: 0, At: 1}, 1, 0, true},
		{"a.b", 2, reflow.Place{Line: 0, At: 1}, 0, 1, true},
		// Cells that are left out take no room.
		{"a<b", 1, reflow.Place{Line: 0, At: 1}, 1, 0, true},
		{"a<b", 1, reflow.Place{Line: 0, At: 3}, 1, 0, true},
		{"<", 1, reflow.Place{Line: 0, At: 1}, 0, 0, true},
		{"<|a", 1, reflow.Place{Line: 1, At: 1}, 1, 0, true},
		// A width that may not be.
		{"ab|cd", 0, reflow.Place{Line: 1, At: 1}, 3, 0, true},
		{"ab|cd", -9, reflow.Place{Line: 1, At: 0}, 2, 0, true},
		{"ab|cd", 5000, reflow.Place{Line: 1, At: 4999}, 1, 4095, true},
	} {
		if is, at, ok := reflow.Where(lines(y.l), y.w, y.p); is != y.y || at != y.at || ok != y.ok {
			t.Errorf("P11.3: %q by %d, %+v: %d, %d, %v, not %d, %d, %v", y.l, y.w, y.p, is, at, ok, y.y, y.at, y.ok)
		}
	}
}

// TestWhereOfAll asks P11.3 of all short lists of lines, at each place and next to them, against the chapter written out anew.
func TestWhereOfAll(t *testing.T) {
	all := lists(lineTexts(3, ".a<"), 2)
	all = append(all, lineTexts(5, ".a<_")...)
	for _, s := range all {
		l := lines(s)
		for w := 1; w <= 5; w++ {
			for line := -1; line <= len(l); line++ {
				for at := -1; at <= 12; at++ {
					p := reflow.Place{Line: line, At: at}
					y, k, ok := reflow.Where(l, w, p)
					if wantY, wantK, want := where(l, w, p); y != wantY || k != wantK || ok != want {
						t.Fatalf("P11.3: %q by %d, %+v: %d, %d, %v, not %d, %d, %v", s, w, p, y, k, ok, wantY, wantK, want)
					}
				}
			}
		}
	}
}

// TestWhereFarAway asks P11.3 of places and widths far away, and of no lines.
func TestWhereFarAway(t *testing.T) {
	for _, l := range [][]reflow.Line{nil, {}, lines("a<b|c|.d")} {
		for _, line := range places(len(l)) {
			for _, at := range places(4) {
				for _, w := range places(3) {
					p := reflow.Place{Line: line, At: at}
					y, k, ok := reflow.Where(l, w, p)
					if wantY, wantK, want := where(l, w, p); y != wantY || k != wantK || ok != want {
						t.Fatalf("P11.3: %q by %d, %+v: %d, %d, %v", shownLines(l), w, p, y, k, ok)
					}
				}
			}
		}
	}
}
