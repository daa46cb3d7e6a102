package row_test

import (
	"math"
	"slices"

	"lapwing/api"
	"lapwing/row"
)

// far are numbers far out of range, some of which are small ones, if they are cut to fewer bits.
var far = []int{math.MinInt, math.MinInt + 1, math.MinInt + 2, -1 << 32, -1<<32 + 1, -1 << 16, 1 << 16, 1<<16 + 1, 1 << 32, 1<<32 + 1, math.MaxInt - 2, math.MaxInt - 1, math.MaxInt}

// ground is the pen by which the tests lay blanks, shown as '_'.
var ground = api.Pen{Fg: 200, Bg: 1<<24 + 5, Flags: 9}

// badPens are some that may not be.
var badPens = []api.Pen{{Fg: -1}, {Fg: 257}, {Bg: 1 << 25}, {Bg: -1}, {Flags: 512}, {Flags: -1}, {Fg: math.MinInt}, {Flags: math.MaxInt}}

// x and wide are cells that are put, shown as 'x' and '<'.
var (
	x    = api.Cell{R: 'x', W: 1, Pen: ground}
	wide = api.Cell{R: 0x4E99, W: 2, Pen: ground}
)

// read is the row that a text tells: '.' a blank cell, '<' and '>' halves, all else itself; the pen of each tells its place.
func read(s string) api.Row {
	r := api.Row{Wrap: true, Dir: 1, Explicit: true}
	for k, letter := range []byte(s) {
		c := api.Cell{R: int(letter), W: 1, Pen: api.Pen{Fg: k + 1}}
		switch letter {
		case '.':
			c.R = 0
		case '<':
			c.R, c.W = 0x4E00+k, 2
		case '>':
			c.R, c.W = 0, 0
		}
		r.Cells = append(r.Cells, c)
	}
	return r
}

// shown is a row as such a text, and, behind a blank, the place that each cell's pen had in what was read: '_' of ground, '-' of Pen{}.
func shown(r api.Row) string {
	letters, places := "", ""
	for _, c := range r.Cells {
		switch {
		case c.W == 2:
			letters += "<"
		case c.W == 0:
			letters += ">"
		case c.R == 0:
			letters += "."
		default:
			letters += string(rune(c.R))
		}
		switch c.Pen {
		case ground:
			places += "_"
		case api.Pen{}:
			places += "-"
		default:
			places += string(rune('0' + c.Pen.Fg - 1))
		}
	}
	return letters + " " + places
}

// short are rows of all texts of at most that many places, of blanks, letters and wide ones: without marks, and with one or two at every letter.
func short(most int) []api.Row {
	var all []api.Row
	for _, s := range texts(most) {
		r := read(s)
		all = append(all, r)
		m := twin(r)
		for k := range m.Cells {
			if m.Cells[k].R != 0 {
				m.Cells[k].M[0] = 0x300 + k
				m.Cells[k].M[1] = k % 2 * (0x400 + k)
			}
		}
		m.Wrap, m.Dir, m.Explicit = false, 2, false
		all = append(all, m)
	}
	return all
}

// texts are all that tell a row of at most that many places.
func texts(most int) []string {
	all := []string{}
	for w := 1; w <= most; w++ {
		all = append(all, textsOf(w)...)
	}
	return all
}

// textsOf are all that tell a row of w places.
func textsOf(w int) []string {
	if w == 0 {
		return []string{""}
	}
	var all []string
	for _, s := range textsOf(w - 1) {
		all = append(all, s+".", s+string(rune('a'+w-1)))
	}
	if w > 1 {
		for _, s := range textsOf(w - 2) {
			all = append(all, s+"<>")
		}
	}
	return all
}

// places are those of a row, some next to it, and far ones.
func places(w int) []int {
	all := slices.Clone(far)
	for k := -3; k <= w+3; k++ {
		all = append(all, k)
	}
	return all
}

// fault is a row that may not be, and why.
type fault struct {
	name string
	r    api.Row
}

// faults are rows that may not be, each of one fault alone.
func faults() []fault {
	long := row.New(api.MaxCols, ground)
	long.Cells = append(long.Cells, x)
	all := []fault{
		{"no cells", api.Row{}},
		{"an empty list of cells", api.Row{Cells: []api.Cell{}, Wrap: true, Dir: 1}},
		{"a cell too many", long},
		{"a wide one without a half behind it", read("a<b")},
		{"a wide one at the end", read("ab<")},
		{"a wide one ahead of a wide one", read("<<>")},
		{"a half at the beginning", read(">ab")},
		{"a half behind a letter", read("a>b")},
		{"a half behind a blank", read(".>b")},
		{"a half behind a half", read("<>>")},
	}
	for _, dir := range slices.Concat([]int{-1, 3}, far) {
		r := read("a<>.")
		r.Dir = dir
		all = append(all, fault{"a Dir that may not be", r})
	}
	for _, y := range badCells() {
		for at := range 4 {
			r := read("....")
			r.Cells[at] = y
			switch {
			case y.W == 0 && at > 0:
				r.Cells[at-1] = wide
			case y.W == 2 && at < 3:
				r.Cells[at+1] = api.Cell{}
			case y.W == 0, y.W == 2:
				continue
			}
			all = append(all, fault{"a cell that may not be", r})
		}
	}
	return all
}

// badCells are cells that may not be in a row, each of one fault alone.
func badCells() []api.Cell {
	all := []api.Cell{
		{R: 'a', W: 3}, {R: 'a', W: -1}, {W: 3}, {W: -1}, {R: 'a', W: math.MinInt}, {R: 'a', W: 1<<32 + 1}, {W: 1 << 32},
		{R: -1, W: 1}, {R: api.MaxRune + 1, W: 1}, {R: -1, W: 2}, {R: api.MaxRune + 1, W: 2}, {R: math.MinInt, W: 1}, {R: 1<<32 + 'a', W: 1},
		{R: 'a', W: 0}, {R: api.MaxRune, W: 0}, {R: -1, W: 0},
		{W: 2},
		{R: 'a', W: 1, M: [2]int{0, 5}}, {R: 'a', W: 2, M: [2]int{0, 5}}, {R: 'a', W: 1, M: [2]int{0, api.MaxRune}},
		{W: 1, M: [2]int{5, 0}}, {W: 0, M: [2]int{5, 0}}, {W: 1, M: [2]int{5, 6}}, {W: 1, M: [2]int{0, 6}}, {W: 0, M: [2]int{0, 6}},
		{R: 'a', W: 1, M: [2]int{-1, 0}}, {R: 'a', W: 1, M: [2]int{api.MaxRune + 1, 0}}, {R: 'a', W: 2, M: [2]int{math.MaxInt, 0}},
		{R: 'a', W: 1, M: [2]int{5, -1}}, {R: 'a', W: 1, M: [2]int{5, api.MaxRune + 1}}, {R: 'a', W: 2, M: [2]int{5, math.MinInt}},
	}
	for _, p := range badPens {
		all = append(all, api.Cell{W: 1, Pen: p}, api.Cell{Pen: p}, api.Cell{R: 'a', W: 1, Pen: p}, api.Cell{R: 'a', W: 2, M: [2]int{5, 6}, Pen: p})
	}
	return all
}

// goodCells are cells that may be put in a row.
func goodCells() []api.Cell {
	return []api.Cell{x, wide, {W: 1}, {W: 1, Pen: ground}, {R: 1, W: 1}, {R: 1, W: 2}, {R: api.MaxRune, W: 1, M: [2]int{1, api.MaxRune}}, {R: api.MaxRune, W: 2, M: [2]int{api.MaxRune, 1}, Pen: ground}, {R: 'b', W: 1, M: [2]int{0x301, 0}}, {R: 0xD800, W: 2, M: [2]int{0xDFFF, 0}, Pen: api.Pen{Fg: 1<<25 - 1, Bg: 256, Flags: 511}}}
}

// twin is r, sharing nothing with it.
func twin(r api.Row) api.Row {
	r.Cells = slices.Clone(r.Cells)
	return r
}

// same: are two rows of the same cells, and all else?
func same(a, b api.Row) bool {
	return slices.Equal(a.Cells, b.Cells) && a.Wrap == b.Wrap && a.Dir == b.Dir && a.Explicit == b.Explicit
}

// lists does something with each list of at most that many of those.
func lists[T any](of []T, most int, each func([]T)) {
	l := make([]T, 0, most)
	var longer func()
	longer = func() {
		each(l)
		if len(l) == most {
			return
		}
		for _, y := range of {
			l = append(l, y)
			longer()
			l = l[:len(l)-1]
		}
	}
	longer()
}
