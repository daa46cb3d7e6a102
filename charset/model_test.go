package charset_test

import (
	"math"
	"slices"
	"strconv"
	"strings"

	"lapwing/charset"
)

// finals are the final bytes of the three sets.
const finals = "B0A"

// list is P4.4's: what 60 to 7E are.
const list = "25C6, 2592, 2409, 240C, 240D, 240A, B0, B1, 2424, 240B, 2518, 2510, 250C, 2514, 253C, 23BA, 23BB, 2500, 23BC, 23BD, 251C, 2524, 2534, 252C, 2502, 2264, 2265, 3C0, 2260, A3, B7"

// dec is what DEC graphics make of each letter that they change.
func dec() map[int]int {
	m := map[int]int{0x5F: 0x20}
	for k, text := range strings.Split(list, ", ") {
		n, err := strconv.ParseInt(text, 16, 32)
		if err != nil {
			panic(err)
		}
		m[0x60+k] = int(n)
	}
	return m
}

// changed is what each set makes of the letters that it changes.
var changed = map[byte]map[int]int{'B': {}, '0': dec(), 'A': {0x23: 0xA3}}

// by is a letter in the set of a final byte.
func by(final byte, r int) int {
	if n, ok := changed[final][r]; ok {
		return n
	}
	return r
}

// mapped is what P4.3 says of a state that is Sane.
func mapped(s charset.State, r int) (charset.State, int) {
	letter := r
	if r >= 0x20 && r <= 0x7F {
		place := s.GL
		if s.Once == 2 || s.Once == 3 {
			place = s.Once
		}
		letter = by(s.G[place], r)
	}
	if final := s.G[s.GR]; r >= 0xA0 && r <= 0xFF && final != 'B' {
		letter = by(final, r-0x80)
	}
	if r >= 0x20 && !(r >= 0x7F && r <= 0x9F) {
		s.Once = 0
	}
	return s, letter
}

// states are all that are Sane.
func states() []charset.State {
	all := []charset.State{{}}
	for k := range 4 {
		var more []charset.State
		for _, s := range all {
			for _, final := range []byte(finals) {
				s.G[k] = final
				more = append(more, s)
			}
		}
		all = more
	}
	var full []charset.State
	for _, s := range all {
		for n := range 4 * 4 * 3 {
			s.GL, s.GR, s.Once = n%4, n/4%4, []int{0, 2, 3}[n/16]
			full = append(full, s)
		}
	}
	return full
}

// far are numbers far away, of which some are near to others when they wrap round.
var far = []int{math.MinInt, math.MinInt + 1, math.MinInt + 0x5F, math.MinInt + 0x80, math.MinInt32, -1 << 16, -0x10FFFF, -256, -255, -254, 254, 255, 256, 257, 258, 259, 1 << 16, 1<<31 + 2, 1 << 32, 1<<32 + 2, 1<<32 + 3, math.MaxInt32, math.MaxInt - 1, math.MaxInt}

// places are those of G, those next to them, and others.
func places() []int {
	return slices.Concat([]int{-4, -3, -2, -1, 0, 1, 2, 3, 4, 5, 6, 7}, far)
}

// fault is a state that may not be, and why.
type fault struct {
	name string
	s    charset.State
}

// faults are states that may not be, each of one fault alone.
func faults() []fault {
	var all []fault
	wrong := func(name string, turn func(s *charset.State)) {
		s := charset.State{G: [4]byte{'0', 'A', 'B', '0'}, GL: 1, GR: 3, Once: 2}
		turn(&s)
		all = append(all, fault{name, s})
	}
	for k := range 4 {
		for c := range 256 {
			if !strings.Contains(finals, string(rune(c))) {
				wrong("G of "+strconv.Itoa(k)+" is "+strconv.Itoa(c), func(s *charset.State) { s.G[k] = byte(c) })
			}
		}
	}
	for _, n := range places() {
		text := strconv.Itoa(n)
		if n < 0 || n > 3 {
			wrong("GL is "+text, func(s *charset.State) { s.GL = n })
			wrong("GR is "+text, func(s *charset.State) { s.GR = n })
		}
		if n != 0 && n != 2 && n != 3 {
			wrong("Once is "+text, func(s *charset.State) { s.Once = n })
		}
	}
	return all
}

// letters are all up to behind FF, and some of all other kinds.
func letters() []int {
	all := slices.Concat([]int{-0xE9, -0x71, -0x5F, -3, -2, -1, 0x2500, 0x25C6, 0xD800, 0xDFFF, 0xFFFD, 0x10FFFE, 0x10FFFF, 0x110000, 0x110001}, far)
	for r := range 0x181 {
		all = append(all, r)
	}
	return all
}
