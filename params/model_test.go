package params_test

import (
	"math"
	"slices"
	"strconv"
	"strings"

	"lapwing/params"
)

// far are numbers far out of range.
var far = []int{math.MinInt, math.MinInt + 1, math.MinInt32, -65536, -65537, 65536, 65537, math.MaxInt32, 1 << 32, math.MaxInt - 1, math.MaxInt}

// twin is l, sharing nothing with it.
func twin(l [][]int) [][]int {
	var out [][]int
	for _, numbers := range l {
		out = append(out, slices.Clone(numbers))
	}
	return out
}

// same: are two lists of the same numbers?
func same(a, b [][]int) bool {
	return slices.EqualFunc(a, b, func(x, y []int) bool { return slices.Equal(x, y) })
}

// alike: are two Lists the same?
func alike(a, b params.List) bool { return a.Open == b.Open && same(a.L, b.L) }

// long is n parameters, the last one of these numbers, those ahead of it each of one of its own.
func long(n int, last ...int) [][]int {
	var l [][]int
	for k := range n - 1 {
		l = append(l, []int{k})
	}
	return append(l, slices.Clone(last))
}

// sane are lists that may be: without a parameter, with few and with as many as may be, the last one of few numbers and of as many as may be.
func sane() []params.List {
	all := []params.List{{}, {L: [][]int{}}}
	for _, n := range []int{1, 2, 3, 14, 15, 16} {
		for _, last := range [][]int{
			{-1}, {0}, {1}, {9}, {38}, {6552}, {6553}, {6554}, {65534}, {65535},
			{4, -1}, {-1, 0}, {65535, 65535}, {1, 2, 3, 4},
			{1, 2, 3, 4, -1}, {1, 2, 3, 4, 5}, {-1, -1, -1, -1, -1},
			{1, 2, 3, 4, 5, -1}, {1, 2, 3, 4, 5, 6}, {65535, 65535, 65535, 65535, 65535, 65535}, {-1, -1, -1, -1, -1, -1},
		} {
			for _, open := range []bool{false, true} {
				all = append(all, params.List{L: long(n, last...), Open: open})
			}
		}
	}
	full := params.List{Open: true}
	for range 16 {
		full.L = append(full.L, []int{1, -1, 65535, 0, 6553, 7})
	}
	return append(all, full, params.List{L: full.L})
}

// fault is a list that may not be, and why.
type fault struct {
	name string
	p    params.List
}

// faults are lists that may not be, each of one fault alone.
func faults() []fault {
	all := []fault{{"Open without a parameter", params.List{Open: true}}, {"Open without a parameter, and not nil", params.List{L: [][]int{}, Open: true}}}
	wrong := func(name string, l [][]int) {
		all = append(all, fault{name, params.List{L: l}}, fault{name + ", Open", params.List{L: l, Open: true}})
	}
	wrong("17 parameters", long(17, 1))
	wrong("300 parameters", long(300, 1))
	for _, n := range []int{1, 2, 16} {
		for at := range n {
			put := func(name string, numbers []int) {
				l := long(n, 5)
				l[at] = numbers
				wrong(name+", "+strconv.Itoa(at)+" of "+strconv.Itoa(n), l)
			}
			put("no number", []int{})
			put("nil", nil)
			put("7 numbers", []int{1, 2, 3, 4, 5, 6, 7})
			put("100 numbers", make([]int, 100))
			for _, bad := range append([]int{-2}, far...) {
				text := strconv.Itoa(bad)
				put("a number of "+text, []int{bad})
				put("a second number of "+text, []int{3, bad})
				put("a sixth number of "+text, []int{1, 2, 3, 4, 5, bad})
				put("a first one of six of "+text, []int{bad, 2, 3, 4, 5, 6})
			}
		}
	}
	return all
}

// digits are what the digit makes of a number that goes on (P5.2).
func digits(n, digit int) int {
	switch {
	case n == -1:
		return digit
	case 10*n+digit > 65535:
		return 65535
	}
	return 10*n + digit
}

// withDigit is Digit of a list that is Sane, as P5.2 says it.
func withDigit(p params.List, c byte) params.List {
	if c < '0' || c > '9' {
		return p
	}
	if len(p.L) == 0 {
		return params.List{L: [][]int{{int(c - '0')}}, Open: true}
	}
	u := params.List{L: twin(p.L), Open: p.Open}
	if last := u.L[len(u.L)-1]; p.Open {
		last[len(last)-1] = digits(last[len(last)-1], int(c-'0'))
	}
	return u
}

// withNext is Next of a list that is Sane, as P5.2 says it.
func withNext(p params.List) params.List {
	switch len(p.L) {
	case 0:
		return params.List{L: [][]int{{-1}, {-1}}, Open: true}
	case 16:
		return params.List{L: p.L}
	}
	return params.List{L: append(twin(p.L), []int{-1}), Open: true}
}

// withSub is Sub of a list that is Sane, as P5.2 says it.
func withSub(p params.List) params.List {
	if len(p.L) == 0 {
		return params.List{L: [][]int{{-1, -1}}, Open: true}
	}
	k := len(p.L) - 1
	if !p.Open || len(p.L[k]) == 6 {
		return params.List{L: p.L}
	}
	l := twin(p.L)
	l[k] = append(l[k], -1)
	return params.List{L: l, Open: true}
}

// parsed is what P5.3 says of a text of digits, ';' and ':' alone, by its pieces instead of byte by byte.
func parsed(s string) [][]int {
	if s == "" {
		return nil
	}
	pieces := strings.Split(s, ";")
	var l [][]int
	for _, piece := range pieces[:min(len(pieces), 16)] {
		var numbers []int
		parts := strings.Split(piece, ":")
		for _, part := range parts[:min(len(parts), 6)] {
			numbers = append(numbers, number(part))
		}
		l = append(l, numbers)
	}
	return l
}

// number is that of digits.
func number(part string) int {
	if part == "" {
		return -1
	}
	part = strings.TrimLeft(part, "0")
	if part == "" {
		return 0
	}
	if len(part) > 5 {
		return 65535
	}
	n, err := strconv.Atoi(part)
	if err != nil {
		panic(err)
	}
	return min(n, 65535)
}

// printed is what P5.3 says of Print, piece by piece.
func printed(l [][]int) string {
	var pieces []string
	for _, numbers := range l {
		var parts []string
		for _, n := range numbers {
			part := strconv.Itoa(n)
			if n == -1 {
				part = ""
			}
			parts = append(parts, part)
		}
		pieces = append(pieces, strings.Join(parts, ":"))
	}
	return strings.Join(pieces, ";")
}
