package reflow_test

import (
	"testing"

	"lapwing/api"
	"lapwing/reflow"
)

func TestJoin(t *testing.T) {
	for _, y := range []struct{ l, want string }{
		{"a", "a"},
		{"ab|cd", "ab|cd"},
		{"ab+|cd", "abcd"},
		{"ab+|cd+", "abcd"},
		{"ab+|cd+|e", "abcde"},
		{"ab|cd+|e|f+", "ab|cde|f"},
		{"ab+|c|..|d.+|e.+|f.", "abc||d.e.f"},
		// What is blank by Pen{} is gone at the line's end alone, all of it, over several rows.
		{".", ""},
		{".+", ""},
		{"...|...", "|"},
		{"..+|..+|..", ""},
		{"a.+|..+|..", "a"},
		{"a.+|..+|.b", "a....b"},
		{"..+|.a.", "...a"},
		{"..+|..|..+|.a", "|...a"},
		{"_", "_"},
		{"a_.", "a_"},
		{"a._..", "a._"},
		{"__|..", "__|"},
		// Halves are gone.
		{"<>", "<"},
		{"<>.", "<"},
		{"a<>b<>", "a<b<"},
		{"<>+|<>", "<<"},
		// What is left over is gone: a blank by Pen{}, at the end of a row that wraps, ahead of a wide one.
		{"a.+|<>", "a<"},
		{"a.+|<>+|b", "a<b"},
		{"a..+|<>", "a.<"},
		{".+|<>", "<"},
		{".+|.+|<>", ".<"},
		{"a.+|<>.+|<>..", "a<<"},
		{"a.+|.<>", "a..<"},
		{"a.+|b", "a.b"},
		{"a_+|<>", "a_<"},
		{"<>+|<>.", "<<"},
		{"a.|<>", "a|<"},
		{"..|<>", "|<"},
		{"ab+|<>", "ab<"},
	} {
		if l := reflow.Join(read(y.l)); shownLines(l) != y.want || !sameLines(l, join(read(y.l))) {
			t.Errorf("P11.1: %q: %q, not %q", y.l, shownLines(l), y.want)
		}
	}
	if l := reflow.Join(nil); len(l) != 0 {
		t.Errorf("P11.1: no rows: %d lines", len(l))
	}
	if l := reflow.Join([]api.Row{}); len(l) != 0 {
		t.Errorf("P11.1: no rows: %d lines", len(l))
	}
}

// TestJoinOfFirstRows asks P11.1 for a line's Dir and Explicit: those of its first row, whatever the others have.
func TestJoinOfFirstRows(t *testing.T) {
	for n := range 3 * 2 * 3 * 2 {
		a := api.Row{Cells: []api.Cell{{R: 'a', W: 1}}, Wrap: true, Dir: n % 3, Explicit: n/3%2 == 0}
		b := api.Row{Cells: []api.Cell{{W: 1}}, Dir: n / 6 % 3, Explicit: n/18 == 0}
		want := []reflow.Line{{a.Cells, a.Dir, a.Explicit}, {nil, b.Dir, b.Explicit}, {a.Cells, a.Dir, a.Explicit}}
		if l := reflow.Join([]api.Row{a, b, b, a, b}); !sameLines(l, want) {
			t.Errorf("P11.1: %+v, not %+v", l, want)
		}
	}
}

// TestJoinOfNearBlanks asks P11.1 of cells that are blank by Pen{}, but for one thing.
func TestJoinOfNearBlanks(t *testing.T) {
	for _, c := range []api.Cell{{R: ' ', W: 1}, {R: 1, W: 1}, {R: 0xA0, W: 1, M: [2]int{0x301, 0}}, {W: 1, Pen: api.Pen{Fg: 1}}, {W: 1, Pen: api.Pen{Bg: 1}}, {W: 1, Pen: api.Pen{Flags: 1}}} {
		a, b := api.Row{Cells: []api.Cell{{R: 'a', W: 1}, c}, Wrap: true}, read("<>|.")
		for n, want := range [][]api.Cell{{a.Cells[0], c, b[0].Cells[0]}, {a.Cells[0], c}} {
			if l := reflow.Join([]api.Row{a, b[n]}); !sameLines(l, []reflow.Line{{Cells: want}}) {
				t.Errorf("P11.1: %+v: %+v", c, l)
			}
		}
	}
}

// TestJoinOfAll asks P11.1 of all short lists of rows against the chapter written out anew, and of what comes that it is Sane.
func TestJoinOfAll(t *testing.T) {
	for _, s := range manyLists() {
		l, want := reflow.Join(read(s)), join(read(s))
		if !sameLines(l, want) {
			t.Fatalf("P11.1: %q: %q, not %q", s, shownLines(l), shownLines(want))
		}
		for _, x := range l {
			if !reflow.Sane(x) {
				t.Fatalf("P11.1: %q: a line is not Sane: %+v", s, x)
			}
		}
	}
}

func TestJoinAtItsGreatest(t *testing.T) {
	l := many(100, api.MaxCols)
	if x := reflow.Join(l); !sameLines(x, join(l)) || len(x) != 1 || len(x[0].Cells) != 100*api.MaxCols {
		t.Errorf("P11.1: %d lines", len(x))
	}
	for y := range l {
		l[y].Wrap = false
	}
	if x := reflow.Join(l); !sameLines(x, join(l)) || len(x) != 100 {
		t.Errorf("P11.1: %d lines", len(x))
	}
}
