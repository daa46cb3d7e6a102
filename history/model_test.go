package history_test

import (
	"lapwing/api"
	"lapwing/grid"
	"lapwing/history"
	"lapwing/row"
)

// mayBe is Sane, as P10.1 says it.
func mayBe(k history.Kept) bool {
	bad := 0
	for _, r := range k.Rows {
		if !row.Sane(r) {
			bad++
		}
	}
	return k.Cap >= 0 && k.Cap <= 200 && len(k.Rows) <= k.Cap && bad == 0
}

// push is Push, as P10.2 says it: row by row, and the eldest one goes as soon as there is one too many.
func push(k history.Kept, l []api.Row) history.Kept {
	if !mayBe(k) {
		return history.Kept{}
	}
	u := history.Kept{Cap: k.Cap}
	u.Rows = append(u.Rows, k.Rows...)
	for _, r := range l {
		if row.Sane(r) {
			u.Rows = append(u.Rows, r)
		}
		if len(u.Rows) > u.Cap {
			u.Rows = u.Rows[1:]
		}
	}
	return u
}

// take is Take, as P10.2 says it: row by row, each one ahead of those that are taken.
func take(k history.Kept, n int) (history.Kept, []api.Row) {
	if !mayBe(k) {
		return history.Kept{}, nil
	}
	u := history.Kept{Cap: k.Cap}
	u.Rows = append(u.Rows, k.Rows...)
	var taken []api.Row
	for n > 0 && len(u.Rows) > 0 {
		n--
		end := len(u.Rows) - 1
		taken = append([]api.Row{u.Rows[end]}, taken...)
		u.Rows = u.Rows[:end]
	}
	return u, taken
}

// rowAt is At, as P10.2 says it: the rows are counted from the last one on.
func rowAt(k history.Kept, n int) (api.Row, bool) {
	if mayBe(k) {
		for y := range k.Rows {
			if len(k.Rows) == n+y+1 && n >= 0 {
				return k.Rows[y], true
			}
		}
	}
	return api.Row{}, false
}

// window is Window, as P10.3 says it: rows are taken off at the end, and then at the beginning, until as many are left.
func window(k history.Kept, g grid.Grid, back int) []api.Row {
	if !mayBe(k) || !grid.Sane(g) {
		return nil
	}
	var all []api.Row
	all = append(all, k.Rows...)
	all = append(all, g.Rows...)
	for range k.Rows {
		if back > 0 {
			all = all[:len(all)-1]
			back--
		}
	}
	for len(all) > len(g.Rows) {
		all = all[1:]
	}
	return all
}
