package reflow_test

import (
	"testing"

	"lapwing/api"
	"lapwing/reflow"
)

// roomy are rows with room behind the last one, and behind the last cell of each, in which something lies.
func roomy(l []api.Row) []api.Row {
	rows := append(make([]api.Row, 0, len(l)+5), twins(l)...)
	for y := range rows {
		w := len(rows[y].Cells)
		rows[y].Cells = append(rows[y].Cells, api.Cell{R: 'y', W: 2}, api.Cell{W: 1})[:w]
	}
	for y := len(rows); y < cap(rows); y++ {
		rows[:cap(rows)][y] = api.Row{Cells: []api.Cell{{R: 0x4E00, W: 2}, {}}, Wrap: true}
	}
	return rows
}

// fullRows are copies of rows, and of cells, with what lies in the room behind them.
func fullRows(l []api.Row) []api.Row {
	l = twins(l[:cap(l)])
	for y := range l {
		l[y].Cells = l[y].Cells[:cap(l[y].Cells)]
	}
	return l
}

// roomyLines are lines with room behind the last one, and behind the last cell of each, in which something lies.
func roomyLines(l []reflow.Line) []reflow.Line {
	all := append(make([]reflow.Line, 0, len(l)+5), twinLines(l)...)
	for y := range all {
		w := len(all[y].Cells)
		all[y].Cells = append(all[y].Cells, api.Cell{R: 'y', W: 2}, api.Cell{W: 3})[:w]
	}
	for y := len(all); y < cap(all); y++ {
		all[:cap(all)][y] = reflow.Line{Cells: []api.Cell{{R: 'z', W: 3}}, Dir: 7}
	}
	return all
}

// fullLines are copies of lines, and of cells, with what lies in the room behind them.
func fullLines(l []reflow.Line) []reflow.Line {
	l = twinLines(l[:cap(l)])
	for y := range l {
		l[y].Cells = l[y].Cells[:cap(l[y].Cells)]
	}
	return l
}

// TestRowsHandedIn asks R3 of rows that are handed in, with what lies behind their end, and that nothing behind an end is read.
func TestRowsHandedIn(t *testing.T) {
	for _, s := range lists(rowsUpTo(2, "."), 2) {
		l, had := read(s), roomy(read(s))
		was := fullRows(had)
		if is := reflow.Join(had); !sameLines(is, join(l)) {
			t.Fatalf("R3: %q, with room behind it: %q", s, shownLines(is))
		}
		for w := 1; w <= 3; w++ {
			for y := -1; y <= len(l); y++ {
				p, ok := reflow.Find(had, y, 1)
				is, toY, toAt := reflow.Reflow(had, w, y, 1)
				wantP, wantOK := find(l, y, 1)
				want, wantY, wantAt := reflowed(l, w, y, 1)
				if p != wantP || ok != wantOK || !sameRows(is, want) || toY != wantY || toAt != wantAt {
					t.Fatalf("R3: %q by %d at %d, with room behind it: %+v, %q at %d, %d", s, w, y, p, shown(is), toY, toAt)
				}
			}
		}
		if !sameRows(fullRows(had), was) {
			t.Fatalf("R3: %q: something is changed", s)
		}
	}
}

// TestLinesHandedIn asks R3 of lines that are handed in, likewise.
func TestLinesHandedIn(t *testing.T) {
	for _, s := range lists(lineTexts(3, ".a<"), 2) {
		l, had := lines(s), roomyLines(lines(s))
		was := fullLines(had)
		for w := 1; w <= 3; w++ {
			if is := reflow.Spread(had, w); !sameRows(is, spread(l, w)) {
				t.Fatalf("R3: %q by %d, with room behind it: %q", s, w, shown(is))
			}
			for k := range l {
				p := reflow.Place{Line: k, At: 2}
				y, at, ok := reflow.Where(had, w, p)
				wantY, wantAt, wantOK := where(l, w, p)
				if !sameRows(reflow.Split(had[k], w), split(l[k], w)) || !reflow.Sane(had[k]) || y != wantY || at != wantAt || ok != wantOK {
					t.Fatalf("R3: %q by %d, the line %d, with room behind it", s, w, k)
				}
			}
		}
		if !sameLines(fullLines(had), was) {
			t.Fatalf("R3: %q: something is changed", s)
		}
	}
}

// TestWhatWasAnswered asks R3 of answers: what is appended to a row or a line of one, or written over it, is not laid over what others have.
func TestWhatWasAnswered(t *testing.T) {
	x := api.Cell{R: 'X', W: 1}
	for _, s := range []string{"abcd+|<>..|e.+|..", "a.+|<>+|<>", "....|....", "a<>b"} {
		had := roomy(read(s))
		was := fullRows(had)
		l := reflow.Join(had)
		rows, _, _ := reflow.Reflow(had, 3, 0, 0)
		spreadRows := reflow.Spread(l, 2)
		for k := range l {
			before, beforeRows, beforeSpread := twinLines(l), twins(rows), twins(spreadRows)
			_ = append(l[k].Cells, x, x)
			if !sameLines(l, before) || !sameRows(rows, beforeRows) || !sameRows(spreadRows, beforeSpread) {
				t.Fatalf("R3: %q: the line %d has room that others have", s, k)
			}
		}
		for y := range rows {
			before := twins(rows)
			_ = append(rows[y].Cells, x, x)
			for k := range rows[y].Cells {
				rows[y].Cells[k] = x
			}
			before[y], rows[y] = api.Row{}, api.Row{}
			if !sameRows(rows, before) || !sameRows(spreadRows, reflow.Spread(l, 2)) || !sameLines(l, reflow.Join(read(s))) {
				t.Fatalf("R3: %q: the row %d shares cells", s, y)
			}
		}
		if !sameRows(fullRows(had), was) {
			t.Fatalf("R3: %q: what was handed in is now %q", s, shown(fullRows(had)))
		}
	}
}

// TestNothingGrows asks that a line does not keep the room of what is cut off of it.
func TestNothingGrows(t *testing.T) {
	l := reflow.Join(reflow.Spread(make([]reflow.Line, 50), api.MaxCols))
	for k, x := range l {
		if len(x.Cells) != 0 || cap(x.Cells) > 50 {
			t.Errorf("the line %d: %d cells, room for %d", k, len(x.Cells), cap(x.Cells))
		}
	}
}
