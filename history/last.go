package history

import (
	"slices"

	"lapwing/api"
	"lapwing/row"
)

// last are the last n rows of l, or all, if there are fewer.
func last(l []api.Row, n int) []api.Row {
	from := len(l) - within(n, len(l))
	// Without room behind them: what is appended must not be laid over what lies there, which others may have.
	return l[from:len(l):len(l)]
}

// ahead are those that stand ahead of the last n.
func ahead(l []api.Row, n int) []api.Row {
	to := len(l) - within(n, len(l))
	// The last n are the room behind these.
	return l[:to:to]
}

// lastSane are the last ones of l that may be, most at most.
func lastSane(l []api.Row, most int) []api.Row {
	var fit []api.Row
	// From the end on, because what would be gone again need not be asked, nor kept.
	for k := len(l) - 1; k >= 0 && len(fit) < most; k-- {
		if row.Sane(l[k]) {
			fit = append(fit, l[k])
		}
	}
	slices.Reverse(fit)
	return fit
}

// within is a number brought to 0 to most.
func within(n, most int) int { return max(0, min(n, most)) }
