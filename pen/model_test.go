package pen_test

import (
	"strconv"

	"lapwing/api"
)

// The numbers of P7.2 that set a flag, and those that take some away, but for 4.
var (
	sets  = map[int]int{1: 1, 2: 2, 3: 4, 5: 16, 7: 32, 8: 64, 9: 128}
	takes = map[int]int{22: 1 + 2, 23: 4, 24: 8 + 256, 25: 16, 27: 32, 28: 64, 29: 128}
)

// The numbers of P7.2 that tell a colour by themselves.
var (
	fgs = map[int]int{30: 1, 31: 2, 32: 3, 33: 4, 34: 5, 35: 6, 36: 7, 37: 8, 39: 0, 90: 9, 91: 10, 92: 11, 93: 12, 94: 13, 95: 14, 96: 15, 97: 16}
	bgs = map[int]int{40: 1, 41: 2, 42: 3, 43: 4, 44: 5, 45: 6, 46: 7, 47: 8, 49: 0, 100: 9, 101: 10, 102: 11, 103: 12, 104: 13, 105: 14, 106: 15, 107: 16}
)

// isColour is what the chapter's Words say.
func isColour(c int) bool { return c >= 0 && c <= 256 || c >= 16777216 && c <= 33554431 }

// mayBe is Sane, as P7.1 says it.
func mayBe(p api.Pen) bool {
	return isColour(p.Fg) && isColour(p.Bg) && p.Flags >= 0 && p.Flags <= 511
}

// applied is Apply, as P7.2 and P7.3 say it.
func applied(p api.Pen, l [][]int) api.Pen {
	if !mayBe(p) || len(l) == 0 {
		return api.Pen{}
	}
	for k := 0; k < len(l); k++ {
		if len(l[k]) == 0 {
			continue
		}
		n := l[k][0]
		if n != 38 && n != 48 {
			p = alone(p, n, l[k][1:])
			continue
		}
		c, taken := 0, 0
		if len(l[k]) > 1 {
			c = ownColour(l[k][1:])
		} else if c, taken = colourThatFollows(l[k+1:]); c == 0 {
			return p
		}
		k += taken
		if c != 0 && n == 38 {
			p.Fg = c
		}
		if c != 0 && n == 48 {
			p.Bg = c
		}
	}
	return p
}

// alone is what a parameter of n and those numbers makes of a pen, if it is neither 38 nor 48.
func alone(p api.Pen, n int, more []int) api.Pen {
	if n == 0 || n == -1 {
		return api.Pen{}
	}
	second := 1
	if len(more) > 0 {
		second = more[0]
	}
	neither := p.Flags - p.Flags&8 - p.Flags&256
	switch {
	case n == 4 && second == 0:
		p.Flags = neither
	case n == 4 && second == 2 || n == 21:
		p.Flags = neither + 256
	case n == 4:
		p.Flags = neither + 8
	}
	p.Flags |= sets[n]
	p.Flags -= p.Flags & takes[n]
	if c, ok := fgs[n]; ok {
		p.Fg = c
	}
	if c, ok := bgs[n]; ok {
		p.Bg = c
	}
	return p
}

// octet: is a number one of 0 to 255?
func octet(n int) bool { return n == n&255 }

// mix is a colour of red, green and blue; 0, if it is none.
func mix(r, g, b int) int {
	if !octet(r) || !octet(g) || !octet(b) {
		return 0
	}
	return 16777216 + 65536*r + 256*g + b
}

// ownColour is what 38's or 48's own numbers tell; 0, if they tell none.
func ownColour(own []int) int {
	switch {
	case own[0] == 5 && len(own) > 1 && octet(own[1]):
		return own[1] + 1
	case own[0] == 2 && len(own) == 4:
		return mix(own[1], own[2], own[3])
	case own[0] == 2 && len(own) > 4:
		return mix(own[2], own[3], own[4])
	}
	return 0
}

// colourThatFollows is what the parameters behind 38 or 48 tell, and how many of them do; 0, if they tell none.
func colourThatFollows(l [][]int) (int, int) {
	first := func(k int) int {
		if k >= len(l) || len(l[k]) == 0 {
			return -1
		}
		return l[k][0]
	}
	switch {
	case first(0) == 5 && octet(first(1)):
		return first(1) + 1, 2
	case first(0) == 2:
		return mix(first(1), first(2), first(3)), 4
	}
	return 0, 0
}

// printed is Print, as P7.4 says it.
func printed(p api.Pen) [][]int {
	if !mayBe(p) {
		return nil
	}
	numbers := []int{0}
	for _, y := range [][2]int{{1, 1}, {2, 2}, {4, 3}, {8, 4}, {16, 5}, {32, 7}, {64, 8}, {128, 9}, {256, 21}} {
		if p.Flags&y[0] > 0 {
			numbers = append(numbers, y[1])
		}
	}
	numbers = append(numbers, colourNumbers(p.Fg, "3", "9")...)
	numbers = append(numbers, colourNumbers(p.Bg, "4", "10")...)
	var l [][]int
	for _, n := range numbers {
		l = append(l, []int{n})
	}
	return l
}

// colourNumbers are those that P7.4 tells of a colour, by the digits that those of the palette begin with.
func colourNumbers(c int, dark, bright string) []int {
	number := func(s string) int {
		n, err := strconv.Atoi(s)
		if err != nil {
			panic(err)
		}
		return n
	}
	switch {
	case c == 0:
		return nil
	case c <= 8:
		return []int{number(dark + strconv.Itoa(c-1))}
	case c <= 16:
		return []int{number(bright + strconv.Itoa(c-9))}
	case c <= 256:
		return []int{number(dark + "8"), 5, c - 1}
	}
	c -= 16777216
	return []int{number(dark + "8"), 2, c / 65536, c / 256 % 256, c % 256}
}
