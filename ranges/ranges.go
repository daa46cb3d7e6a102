// Package ranges is layer 1, tables of numbers, by ranges: see shared/doc/01-ranges.md.
package ranges

import (
	"sort"

	"lapwing/api"
)

const (
	mostRows = 4096
	mostV    = 255
)

// Row is a range, and its number.
type Row struct{ Lo, Hi, V int }

// Table is rows.
type Table struct{ L []Row }

// Sane: may a table be?
func Sane(t Table) bool {
	if len(t.L) > mostRows || !rise(t.L) {
		return false
	}
	for k := 1; k < len(t.L); k++ {
		if goesOn(t.L[k-1], t.L[k]) {
			return false
		}
	}
	return true
}

// Make is a table of rows.
func Make(l []Row) (Table, api.Errno) {
	if !rise(l) {
		return Table{}, api.ErrArg
	}
	joined := join(l)
	if len(joined) > mostRows {
		return Table{}, api.ErrLimit
	}
	return Table{L: joined}, api.OK
}

// Get is a number's.
func Get(t Table, r int) int {
	// Row by row, because a table that is not Sane has an answer too: that of the first row that fits.
	for _, x := range t.L {
		if x.Lo <= r && r <= x.Hi {
			return x.V
		}
	}
	return 0
}

// Over is a table over another one.
func Over(a, b Table) Table {
	if !Sane(a) || !Sane(b) {
		return Table{}
	}
	// Too many rows are Make's error, beside which it tells Table{}.
	t, _ := Make(lay(a.L, b.L))
	return t
}

// Total is how many numbers there are.
func Total(t Table) int {
	if !Sane(t) {
		return 0
	}
	n := 0
	for _, x := range t.L {
		n += x.Hi - x.Lo + 1
	}
	return n
}

// rise: may each row be by itself, and is each above the one ahead?
func rise(l []Row) bool {
	last := -1
	for _, x := range l {
		if x.Lo <= last || x.Hi < x.Lo || x.Hi > api.MaxRune || x.V < 1 || x.V > mostV {
			return false
		}
		last = x.Hi
	}
	return true
}

// goesOn: are two rows that rise one range of one number?
func goesOn(x, next Row) bool {
	return next.Lo == x.Hi+1 && next.V == x.V
}

// join makes one row of each that go on with one another.
func join(l []Row) []Row {
	var out []Row
	for _, x := range l {
		if k := len(out) - 1; k >= 0 && goesOn(out[k], x) {
			out[k].Hi = x.Hi
		} else {
			out = append(out, x)
		}
	}
	return out
}

// lay is the rows of b, and of a what lies between them.
func lay(a, b []Row) []Row {
	var out []Row
	free := 0
	for _, x := range b {
		out = append(between(out, a, free, x.Lo-1), x)
		free = x.Hi + 1
	}
	return between(out, a, free, api.MaxRune)
}

// between lays what l has from lo to hi behind out.
func between(out, l []Row, lo, hi int) []Row {
	if lo > hi {
		return out
	}
	first := sort.Search(len(l), func(k int) bool { return l[k].Hi >= lo })
	for _, x := range l[first:] {
		if x.Lo > hi {
			break
		}
		out = append(out, Row{Lo: max(x.Lo, lo), Hi: min(x.Hi, hi), V: x.V})
	}
	return out
}
