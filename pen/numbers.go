package pen

import (
	"lapwing/api"
	"lapwing/params"
)

// Numbers that tell a colour: these are for Fg.
const (
	dark     = 30 // the palette's first ones
	numbered = 38 // a colour by the numbers behind it
	usual    = 39
	bright   = 90 // the palette's next ones
	group    = 8  // how many are told from dark on, and from bright on
	toGround = 10 // how much greater the same number for Bg is
)

// What the first number behind numbered tells, and how many numbers that needs, with itself.
const (
	indexes     = 5
	indexNeeds  = 2
	mixes       = 2
	mixingNeeds = 4
)

// missing stands for a number that is not there.
const missing = -1

// isGround: is it a number that is for Bg?
func isGround(n int) bool {
	return dark+toGround <= n && n <= usual+toGround || bright+toGround <= n && n < bright+group+toGround
}

// painted is a pen with a colour, as Fg or Bg, whichever the number n is for.
func painted(p api.Pen, n, c int) api.Pen {
	if isGround(n) {
		p.Bg = c
	} else {
		p.Fg = c
	}
	return p
}

// plain is the colour that a number tells by itself; false, if it tells none.
func plain(n int) (int, bool) {
	if isGround(n) {
		n -= toGround
	}
	switch {
	case dark <= n && n < dark+group:
		return n - dark + 1, true
	case bright <= n && n < bright+group:
		return n - bright + group + 1, true
	}
	return 0, n == usual
}

// extended is a pen by 38 or 48, the first parameter of l, and what is left of l behind its colour.
func extended(p api.Pen, l [][]int) (api.Pen, [][]int) {
	n, own, rest := l[0][0], l[0][1:], l[1:]
	if len(own) > 0 {
		c, used := byNumbers(withoutSpace(own))
		if used > 0 {
			p = painted(p, n, c)
		}
		return p, rest
	}
	c, used := byNumbers(firsts(rest))
	if used == 0 {
		// Nothing is left, because nobody can tell how much of what follows was meant for the colour.
		return p, nil
	}
	return painted(p, n, c), rest[used:]
}

// withoutSpace is the numbers of a parameter's own that tell a colour: where there are more than red, green and blue need, the one ahead of these names a space of colours.
func withoutSpace(own []int) []int {
	if own[0] != mixes || len(own) <= mixingNeeds {
		return own
	}
	return append([]int{mixes}, own[2:1+mixingNeeds]...)
}

// firsts is the first numbers of l's parameters, of as many as a colour may need.
func firsts(l [][]int) []int {
	var numbers []int
	for k := range min(len(l), mixingNeeds) {
		numbers = append(numbers, params.Get(l, k, missing))
	}
	return numbers
}

// byNumbers is the colour that numbers tell, and how many of them tell it: 0, if they are no colour's.
func byNumbers(numbers []int) (int, int) {
	switch {
	case begin(numbers, indexes, indexNeeds):
		return numbers[1] + 1, indexNeeds
	case begin(numbers, mixes, mixingNeeds):
		return RGB(numbers[1], numbers[2], numbers[3]), mixingNeeds
	}
	return 0, 0
}

// begin: do numbers begin with that one, and with as many in all as it needs, each of 0 to 255?
func begin(numbers []int, first, needs int) bool {
	if len(numbers) < needs || numbers[0] != first {
		return false
	}
	for _, n := range numbers[1:needs] {
		if n != octet(n) {
			return false
		}
	}
	return true
}

// numbersOf is what makes a colour Fg, or, with toGround more, Bg.
func numbersOf(c, more int) []int {
	kind, n, g, b := Parts(c)
	switch {
	case kind == ofUsual:
		return nil
	case kind == ofMixed:
		return []int{numbered + more, mixes, n, g, b}
	case n < group:
		return []int{dark + more + n}
	case n < 2*group:
		return []int{bright + more + n - group}
	}
	return []int{numbered + more, indexes, n}
}
