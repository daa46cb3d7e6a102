package pen_test

import (
	"math"
	"slices"
	"strconv"

	"lapwing/api"
)

// far are numbers far out of range.
var far = []int{math.MinInt, math.MinInt + 1, math.MinInt + 10, math.MinInt + 38, math.MinInt32, -1 << 25, -1 << 24, -65536, -512, -257, 1 << 26, 1<<31 + 1<<24, 1 << 32, 1<<32 + 1, 1<<32 + 38, 1<<32 + 1<<24, math.MaxInt - 9, math.MaxInt - 1, math.MaxInt}

// notColours are numbers that are none.
var notColours = slices.Concat([]int{-1, -2, -256, 257, 258, 511, 512, 65536, 1<<24 - 2, 1<<24 - 1, 1 << 25, 1<<25 + 1, 1<<25 + 1<<24}, far)

// colours are some that there are: the usual one, the palette's at each end of what is told alike, and those that are mixed.
var colours = []int{0, 1, 2, 8, 9, 16, 17, 255, 256, 1 << 24, 1<<24 + 1, 1<<24 + 0x00FF00, 1<<24 + 0x010203, 1<<24 + 0xFF0000, 1<<25 - 2, 1<<25 - 1}

// pens are some that may be, of few flags and of all of them.
func pens() []api.Pen {
	var all []api.Pen
	for _, fg := range colours {
		for _, bg := range colours {
			for _, flags := range []int{0, 1, 8, 256, 8 + 256, 0x0F, 0xA5, 510, 511} {
				all = append(all, api.Pen{Fg: fg, Bg: bg, Flags: flags})
			}
		}
	}
	return all
}

// fault is a pen that may not be, and why.
type fault struct {
	name string
	p    api.Pen
}

// faults are pens that may not be, each of one fault alone.
func faults() []fault {
	var all []fault
	for _, p := range []api.Pen{{}, {Fg: 1, Bg: 256, Flags: 511}, {Fg: 1<<25 - 1, Bg: 1 << 24, Flags: 8}} {
		for _, c := range notColours {
			all = append(all,
				fault{"Fg of " + strconv.Itoa(c), api.Pen{Fg: c, Bg: p.Bg, Flags: p.Flags}},
				fault{"Bg of " + strconv.Itoa(c), api.Pen{Fg: p.Fg, Bg: c, Flags: p.Flags}})
		}
		for _, flags := range append([]int{-1, -2, -256, 512, 513, 1023, 1024, 65536}, far...) {
			all = append(all, fault{"Flags of " + strconv.Itoa(flags), api.Pen{Fg: p.Fg, Bg: p.Bg, Flags: flags}})
		}
	}
	return all
}

// twin is l, sharing nothing with it.
func twin(l [][]int) [][]int {
	var out [][]int
	for _, numbers := range l {
		out = append(out, slices.Clone(numbers))
	}
	return out
}

// same: are two lists of the same numbers?
func same(a, b [][]int) bool {
	return slices.EqualFunc(a, b, func(x, y []int) bool { return slices.Equal(x, y) })
}

// lists does something with each list of at most that many of those.
func lists[T any](of []T, most int, each func([]T)) {
	l := make([]T, 0, most)
	var longer func()
	longer = func() {
		each(l)
		if len(l) == most {
			return
		}
		for _, y := range of {
			l = append(l, y)
			longer()
			l = l[:len(l)-1]
		}
	}
	longer()
}
