package utf_test

import "math/rand"

const bad = 0xFFFD

// span are bytes from lo to hi.
type span struct{ lo, hi byte }

// on are the bytes with which letters of more than one byte go on.
var on = span{0x80, 0xBF}

// forms are what a letter's bytes may be, in the order of the chapter's section 'Words', which is that of the letters too.
var forms = [][]span{
	{{0x00, 0x7F}},
	{{0xC2, 0xDF}, on},
	{{0xE0, 0xE0}, {0xA0, 0xBF}, on},
	{{0xE1, 0xEC}, on, on},
	{{0xED, 0xED}, {0x80, 0x9F}, on},
	{{0xEE, 0xEE}, on, on},
	{{0xEF, 0xEF}, on, on},
	{{0xF0, 0xF0}, {0x90, 0xBF}, on, on},
	{{0xF1, 0xF3}, on, on, on},
	{{0xF4, 0xF4}, {0x80, 0x8F}, on, on},
}

// fits: are bytes the first ones of a form, and are they all of it?
func fits(b []byte) (begun, whole bool) {
	for _, f := range forms {
		if len(b) == 0 || len(b) > len(f) {
			continue
		}
		in := true
		for k, c := range b {
			in = in && f[k].lo <= c && c <= f[k].hi
		}
		if in {
			return true, len(b) == len(f)
		}
	}
	return false, false
}

// begins: are bytes a beginning?
func begins(b []byte) bool {
	begun, whole := fits(b)
	return begun && !whole
}

// number is the letter that bytes are: the bits behind what tells how many bytes there are.
func number(b []byte) int {
	n := int(b[0])
	if len(b) > 1 {
		n &= 0xFF >> (len(b) + 1)
	}
	for _, c := range b[1:] {
		n = n<<6 | int(c&0x3F)
	}
	return n
}

// told are the letters of bytes, and what is left of them, as P3.1 says it.
func told(b []byte) (letters []int, left []byte) {
	for len(b) > 0 {
		if begins(b) {
			return letters, b
		}
		r, size := bad, 1
		for n := 1; n <= min(4, len(b)); n++ {
			if begun, whole := fits(b[:n]); whole {
				r, size = number(b[:n]), n
			} else if begun {
				size = n
			}
		}
		letters = append(letters, r)
		b = b[size:]
	}
	return letters, nil
}

// edges are the bytes at both ends of every range of every form, and next to them.
func edges() []byte {
	var has [256]bool
	for _, f := range forms {
		for _, s := range f {
			for _, c := range []byte{s.lo - 1, s.lo, s.hi, s.hi + 1} {
				has[c] = true
			}
		}
	}
	var l []byte
	for c, ok := range has {
		if ok {
			l = append(l, byte(c))
		}
	}
	return l
}

// each tells f all lists of n of some bytes; f may not keep them.
func each(some []byte, n int, f func(b []byte)) {
	b := make([]byte, n)
	var lay func(k int)
	lay = func(k int) {
		if k == n {
			f(b)
			return
		}
		for _, c := range some {
			b[k] = c
			lay(k + 1)
		}
	}
	lay(0)
}

// every tells f the bytes of every letter, in the order of the letters; f may not keep them.
func every(f func(b []byte)) {
	for _, form := range forms {
		b := make([]byte, len(form))
		var lay func(k int)
		lay = func(k int) {
			if k == len(form) {
				f(b)
				return
			}
			for c := int(form[k].lo); c <= int(form[k].hi); c++ {
				b[k] = byte(c)
				lay(k + 1)
			}
		}
		lay(0)
	}
}

// thrown are n bytes, of which most have to do with one another.
func thrown(r *rand.Rand, n int) []byte {
	some := edges()
	b := make([]byte, n)
	for k := range b {
		switch r.Intn(4) {
		case 0:
			b[k] = byte(r.Intn(256))
		case 1:
			b[k] = byte(0x80 + r.Intn(0x40))
		default:
			b[k] = some[r.Intn(len(some))]
		}
	}
	return b
}
