package history_test

import (
	"testing"

	"lapwing/api"
	"lapwing/grid"
	"lapwing/history"
)

// roomy are rows with room behind the last one, and behind the last cell of each, in which something lies.
func roomy(l []api.Row) []api.Row {
	rows := append(make([]api.Row, 0, len(l)+9), twins(l)...)
	for y := range rows {
		w := len(rows[y].Cells)
		rows[y].Cells = append(rows[y].Cells, api.Cell{R: 'y', W: 2}, api.Cell{W: 1})[:w]
	}
	for y := len(rows); y < cap(rows); y++ {
		rows[:cap(rows)][y] = api.Row{Cells: []api.Cell{{R: 'Z', W: 1}}, Wrap: true}
	}
	return rows
}

// full are copies of rows, and of cells, with what lies in the room behind them.
func full(l []api.Row) []api.Row {
	l = twins(l[:cap(l)])
	for y := range l {
		l[y].Cells = l[y].Cells[:cap(l[y].Cells)]
	}
	return l
}

// all are the rows of what every call makes at a place.
func all(k history.Kept, g grid.Grid, l []api.Row, at int) [][]api.Row {
	left, taken := history.Take(k, at)
	r, _ := history.At(k, at)
	return [][]api.Row{history.Push(k, l).Rows, left.Rows, taken, {r}, history.Window(k, g, at)}
}

// TestWhatIsHandedIn asks R3 of all that is handed in, with what lies behind its end, and that nothing behind an end is read.
func TestWhatIsHandedIn(t *testing.T) {
	for had := range 6 {
		for _, s := range []string{"", "x", ".", "x.yz", "uvwxyz"} {
			k, g, l := kept(letters(had), 5), gridOf("uvw"), read(s)
			hadK, hadG, hadL := history.Kept{Rows: roomy(k.Rows), Cap: 5}, grid.Grid{Rows: roomy(g.Rows)}, roomy(l)
			wasK, wasG, wasL := full(hadK.Rows), full(hadG.Rows), full(hadL)
			for at := -1; at <= had+1; at++ {
				want := all(k, g, l, at)
				for n, is := range all(hadK, hadG, hadL, at) {
					if !same(is, want[n]) {
						t.Fatalf("R3: %d at %d: %q, and %q with room behind it", n, at, shown(want[n]), shown(is))
					}
				}
			}
			if history.Cells(hadK) != history.Cells(k) || !history.Sane(hadK) {
				t.Fatalf("R3: %q, with room behind it", shown(k.Rows))
			}
			if !same(full(hadK.Rows), wasK) || !same(full(hadG.Rows), wasG) || !same(full(hadL), wasL) {
				t.Fatalf("R3: %q, %q: something is changed", shown(k.Rows), s)
			}
		}
	}
}

// TestWhatWasAnswered asks R3 of answers: what is made of them later on, in two ways from each, leaves them as they are.
func TestWhatWasAnswered(t *testing.T) {
	g := gridOf("uvw")
	for most := range 6 {
		var told, was [][]api.Row
		keep := func(k history.Kept) []history.Kept {
			next := []history.Kept{history.Push(k, read("x")), history.Push(k, read("yz"))}
			lists := [][]api.Row{next[0].Rows, next[1].Rows}
			for at := range 3 {
				left, taken := history.Take(k, at)
				next = append(next, left)
				lists = append(lists, left.Rows, taken, history.Window(k, g, at))
			}
			for _, l := range lists {
				told = append(told, l)
				was = append(was, twins(l))
			}
			return next
		}
		for _, a := range keep(history.Push(history.New(most), read("abcd"))) {
			for _, b := range keep(a) {
				for _, c := range keep(b) {
					keep(c)
				}
			}
		}
		for n := range told {
			if !same(told[n], was[n]) {
				t.Fatalf("R3: room for %d: %q is now %q", most, shown(was[n]), shown(told[n]))
			}
		}
	}
}

// TestNoRoomBehind asks of answers that what is appended to one of them is not laid over what others have.
func TestNoRoomBehind(t *testing.T) {
	for had := range 6 {
		for at := range 7 {
			k, g, more := history.Kept{Rows: roomy(read(letters(had))), Cap: 5}, gridOf("uvw"), read("pqrs")
			was := full(k.Rows)
			lists := all(k, g, read("x.yz"), at)
			before := make([][]api.Row, len(lists))
			for n, l := range lists {
				before[n] = twins(l)
			}
			for _, l := range lists {
				_ = append(l, more...)
			}
			for n, l := range lists {
				if !same(l, before[n]) {
					t.Fatalf("R3: %d of %d rows at %d: %q is now %q", n, had, at, shown(before[n]), shown(l))
				}
			}
			if !same(full(k.Rows), was) {
				t.Fatalf("R3: %d rows at %d: what was handed in is now %q", had, at, shown(full(k.Rows)))
			}
		}
	}
}

// TestNothingGrows asks that what is gone is not kept behind what stays: neither in front of it, nor in room behind.
func TestNothingGrows(t *testing.T) {
	k := history.New(api.MaxKept)
	for range 50 {
		k = history.Push(k, many(1000))
		if cap(k.Rows) > api.MaxKept {
			t.Fatalf("P10.4: room for %d rows", cap(k.Rows))
		}
	}
	for range 1000 {
		k = history.Push(k, many(1))
		if len(k.Rows) != api.MaxKept || cap(k.Rows) != api.MaxKept {
			t.Fatalf("P10.4: %d rows, room for %d", len(k.Rows), cap(k.Rows))
		}
	}
}
