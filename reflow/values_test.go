package reflow_test

import (
	"math"
	"slices"
	"strings"

	"lapwing/api"
	"lapwing/reflow"
)

// far are numbers far out of range, some of which are small ones, if they are cut to fewer bits.
var far = []int{math.MinInt, math.MinInt + 1, -1 << 32, -1<<32 + 1, -1<<32 + 2, -1 << 16, 1 << 16, 1<<16 + 1, 1 << 32, 1<<32 + 1, 1<<32 + 2, math.MaxInt - 1, math.MaxInt}

// ground is the pen of blanks shown as '_'.
var ground = api.Pen{Fg: 200, Bg: 1<<24 + 5, Flags: 9}

// cellOf is the cell that a letter tells: '.' blank by Pen{}, '_' blank by ground, '<' a wide one, '>' its half, all else itself; at tells which of several.
func cellOf(letter byte, at int) api.Cell {
	switch letter {
	case '.':
		return api.Cell{W: 1}
	case '_':
		return api.Cell{W: 1, Pen: ground}
	case '<':
		return api.Cell{R: 0x4E00 + at, W: 2, M: [2]int{0x301, at % 2}, Pen: api.Pen{Bg: at}}
	case '>':
		return api.Cell{Pen: api.Pen{Flags: 1}}
	}
	return api.Cell{R: int(letter), W: 1, M: [2]int{0x300 + at, 0}, Pen: api.Pen{Fg: at % 2, Flags: at % 4}}
}

// read are the rows that a text tells, '|' between them, '+' at the end of one that wraps; what else a row has differs from one to the next.
func read(s string) []api.Row {
	var l []api.Row
	for y, text := range strings.Split(s, "|") {
		text, wraps := strings.CutSuffix(text, "+")
		r := api.Row{Wrap: wraps, Dir: y % 3, Explicit: y%4 > 1}
		for k := range len(text) {
			r.Cells = append(r.Cells, cellOf(text[k], 10*y+k))
		}
		l = append(l, r)
	}
	return l
}

// lines are those that a text tells, '|' between them: as rows, but without halves.
func lines(s string) []reflow.Line {
	var l []reflow.Line
	for y, text := range strings.Split(s, "|") {
		x := reflow.Line{Dir: (y + 1) % 3, Explicit: y%2 == 0}
		for k := range len(text) {
			x.Cells = append(x.Cells, cellOf(text[k], 10*y+k))
		}
		l = append(l, x)
	}
	return l
}

// shown are rows as such a text.
func shown(l []api.Row) string {
	var texts []string
	for _, r := range l {
		s := lettersOf(r.Cells)
		if r.Wrap {
			s += "+"
		}
		texts = append(texts, s)
	}
	return strings.Join(texts, "|")
}

// shownLines are lines as such a text.
func shownLines(l []reflow.Line) string {
	var texts []string
	for _, x := range l {
		texts = append(texts, lettersOf(x.Cells))
	}
	return strings.Join(texts, "|")
}

// lettersOf are cells as such a text, '?' of what it can't tell.
func lettersOf(cells []api.Cell) string {
	s := ""
	for _, c := range cells {
		switch {
		case c.W == 2:
			s += "<"
		case c.W == 0:
			s += ">"
		case c == api.Cell{W: 1}:
			s += "."
		case c == api.Cell{W: 1, Pen: ground}:
			s += "_"
		case c.R == 0:
			s += "?"
		default:
			s += string(rune(c.R))
		}
	}
	return s
}

// texts are all that tell w places out of letters, each of them another one at another place, and of wide ones with halves.
func texts(w int, blanks string) []string {
	if w == 0 {
		return []string{""}
	}
	var all []string
	for _, s := range texts(w-1, blanks) {
		all = append(all, s+string(rune('a'+w-1)))
		for _, b := range blanks {
			all = append(all, s+string(b))
		}
	}
	if w > 1 {
		for _, s := range texts(w-2, blanks) {
			all = append(all, s+"<>")
		}
	}
	return all
}

// rowsUpTo are the texts of all rows of at most w places, those that wrap and those that don't.
func rowsUpTo(w int, blanks string) []string {
	var all []string
	for k := 1; k <= w; k++ {
		for _, s := range texts(k, blanks) {
			all = append(all, s, s+"+")
		}
	}
	return all
}

// lists are all of one to most of those, '|' between them.
func lists(of []string, most int) []string {
	all, longest := slices.Clone(of), of
	for range most - 1 {
		var longer []string
		for _, s := range longest {
			for _, y := range of {
				longer = append(longer, s+"|"+y)
			}
		}
		all = append(all, longer...)
		longest = longer
	}
	return all
}

// manyLists are those of rows that tests go over: up to three narrow ones, and up to two that are less so.
func manyLists() []string {
	return slices.Concat(lists(rowsUpTo(2, "._"), 3), lists(rowsUpTo(4, "."), 2))
}

// lineTexts are those of all lines of at most n cells out of that.
func lineTexts(n int, of string) []string {
	all, longest := []string{""}, []string{""}
	for range n {
		var longer []string
		for _, s := range longest {
			for _, letter := range of {
				longer = append(longer, s+string(letter))
			}
		}
		all = append(all, longer...)
		longest = longer
	}
	return all
}

// places are those of n, some next to them, and far ones.
func places(n int) []int {
	all := slices.Clone(far)
	for k := -2; k <= n+2; k++ {
		all = append(all, k)
	}
	return all
}

// badPens are some that may not be.
var badPens = []api.Pen{{Fg: -1}, {Fg: 257}, {Bg: 1 << 25}, {Bg: -1}, {Flags: 512}, {Flags: -1}, {Fg: math.MinInt}, {Flags: math.MaxInt}}

// badCells are cells that may not be in a line, each of one fault alone.
func badCells() []api.Cell {
	all := []api.Cell{
		{}, {Pen: ground}, {R: 'a'}, {M: [2]int{1, 0}}, {R: 'a', W: 3}, {R: 'a', W: -1}, {W: 3}, {R: 'a', W: 4}, {R: 'a', W: math.MinInt}, {R: 'a', W: 1<<32 + 1}, {W: math.MaxInt},
		{R: -1, W: 1}, {R: api.MaxRune + 1, W: 1}, {R: -1, W: 2}, {R: api.MaxRune + 1, W: 2}, {R: 1<<32 + 'a', W: 1},
		{W: 2}, {W: 2, Pen: ground},
		{R: 'a', W: 1, M: [2]int{0, 5}}, {R: 'a', W: 2, M: [2]int{0, 5}}, {W: 1, M: [2]int{5, 0}}, {W: 1, M: [2]int{0, 6}},
		{R: 'a', W: 1, M: [2]int{-1, 0}}, {R: 'a', W: 1, M: [2]int{api.MaxRune + 1, 0}}, {R: 'a', W: 2, M: [2]int{5, api.MaxRune + 1}},
	}
	for _, p := range badPens {
		all = append(all, api.Cell{W: 1, Pen: p}, api.Cell{R: 'a', W: 1, Pen: p}, api.Cell{R: 'a', W: 2, M: [2]int{5, 6}, Pen: p})
	}
	return all
}

// goodCells are cells that may be in a line.
func goodCells() []api.Cell {
	return []api.Cell{{W: 1}, {W: 1, Pen: ground}, {R: 'a', W: 1}, {R: 1, W: 2}, {R: api.MaxRune, W: 1, M: [2]int{1, api.MaxRune}}, {R: api.MaxRune, W: 2, M: [2]int{api.MaxRune, 1}, Pen: ground}, {R: 0xD800, W: 2, M: [2]int{0xDFFF, 0}, Pen: api.Pen{Fg: 1<<25 - 1, Bg: 256, Flags: 511}}}
}

// badLines are lines that may not be, each of one fault alone.
func badLines() []reflow.Line {
	var all []reflow.Line
	for _, dir := range slices.Concat(far, []int{-2, -1, 3, 4}) {
		all = append(all, reflow.Line{Dir: dir})
		x := lines("ab<")[0]
		x.Dir = dir
		all = append(all, x)
	}
	for _, c := range badCells() {
		all = append(all, reflow.Line{Cells: []api.Cell{c}})
		for at := range 4 {
			x := lines("ab<.")[0]
			x.Cells[at] = c
			all = append(all, x)
		}
	}
	return all
}

// badRows are rows that may not be, each of one fault alone.
func badRows() []api.Row {
	all := []api.Row{
		{},
		{Cells: []api.Cell{}, Wrap: true},
		{Cells: slices.Repeat([]api.Cell{{R: 'q', W: 1}}, api.MaxCols+1)},
		{Cells: []api.Cell{{R: 'q', W: 1}}, Dir: 3},
		{Cells: []api.Cell{{R: 'q', W: 1}}, Dir: -1, Wrap: true},
		{Cells: []api.Cell{{R: 'q', W: 1}, {R: 0x4E00, W: 2}}},
		{Cells: []api.Cell{{}, {R: 'q', W: 1}}},
		{Cells: []api.Cell{{R: 'q', W: 1}, {}}, Wrap: true},
		{Cells: []api.Cell{{R: 0x4E00, W: 2}, {R: 'q', W: 1}}},
	}
	for _, c := range badCells() {
		if c.W == 1 {
			all = append(all, api.Row{Cells: []api.Cell{{R: 'q', W: 1}, c}, Wrap: true})
		}
	}
	return all
}

// many are h rows of w letters, each of which wraps.
func many(h, w int) []api.Row {
	l := make([]api.Row, h)
	for y := range l {
		l[y].Wrap = true
		for k := range w {
			l[y].Cells = append(l[y].Cells, api.Cell{R: 1 + y*w + k, W: 1})
		}
	}
	return l
}

// twins are rows, sharing nothing with those.
func twins(l []api.Row) []api.Row {
	l = slices.Clone(l)
	for y := range l {
		l[y].Cells = slices.Clone(l[y].Cells)
	}
	return l
}

// twinLines are lines, sharing nothing with those.
func twinLines(l []reflow.Line) []reflow.Line {
	l = slices.Clone(l)
	for y := range l {
		l[y].Cells = slices.Clone(l[y].Cells)
	}
	return l
}

// sameRow: are two rows of the same cells, and all else?
func sameRow(a, b api.Row) bool {
	return slices.Equal(a.Cells, b.Cells) && a.Wrap == b.Wrap && a.Dir == b.Dir && a.Explicit == b.Explicit
}

// sameRows: are two lists of the same rows?
func sameRows(a, b []api.Row) bool { return slices.EqualFunc(a, b, sameRow) }

// sameLine: are two lines of the same cells, and all else?
func sameLine(a, b reflow.Line) bool {
	return slices.Equal(a.Cells, b.Cells) && a.Dir == b.Dir && a.Explicit == b.Explicit
}

// sameLines: are two lists of the same lines?
func sameLines(a, b []reflow.Line) bool { return slices.EqualFunc(a, b, sameLine) }
