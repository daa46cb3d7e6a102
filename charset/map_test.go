package charset_test

import (
	"math"
	"testing"

	"lapwing/charset"
)

func TestMapOfEveryState(t *testing.T) {
	all := letters()
	for _, s := range states() {
		for _, r := range all {
			u, n := charset.Map(s, r)
			if v, want := mapped(s, r); u != v || n != want {
				t.Fatalf("P4.3: %v: Map of %x: %v, %x, not %v, %x", s, r, u, n, v, want)
			}
		}
	}
}

func TestMap(t *testing.T) {
	plain := charset.New()
	left := func(final byte) charset.State { return charset.Set(plain, 0, final) }
	right := func(final byte) charset.State { return charset.Set(plain, 2, final) }
	for name, y := range map[string]struct {
		s       charset.State
		r, want int
	}{
		"the letter itself":             {plain, 'q', 'q'},
		"q of DEC graphics":             {left('0'), 'q', 0x2500},
		"a letter that they don't have": {left('0'), 'A', 'A'},
		"the first of GL":               {left('0'), 0x20, 0x20},
		"ahead of GL":                   {left('0'), 0x1F, 0x1F},
		"the last of GL":                {left('0'), 0x7F, 0x7F},
		"the last graphic one":          {left('0'), 0x7E, 0xB7},
		"behind GL":                     {left('0'), 0x80, 0x80},
		"GL, and a letter of GR":        {left('0'), 0xF1, 0xF1},
		"the pound":                     {left('A'), 0x23, 0xA3},
		"of UK, no graphics":            {left('A'), 'q', 'q'},
		"GR of B is the letter itself":  {plain, 0xE9, 0xE9},
		"GR's q":                        {right('0'), 0xF1, 0x2500},
		"GR, and a letter of GL":        {right('0'), 'q', 'q'},
		"GR's blank":                    {right('0'), 0xDF, 0x20},
		"the first of GR":               {right('0'), 0xA0, 0x20},
		"ahead of GR":                   {right('0'), 0x9F, 0x9F},
		"the last of GR":                {right('0'), 0xFF, 0x7F},
		"behind GR":                     {right('0'), 0x100, 0x100},
		"80 more than behind GR":        {right('0'), 0x171, 0x171},
		"GR's letter, not a graphic":    {right('0'), 0xC1, 0x41},
		"GR's pound":                    {right('A'), 0xA3, 0xA3},
		"UK's other letters":            {right('A'), 0xE9, 0x69},
		"the first of GR, of UK":        {right('A'), 0xA0, 0x20},
		"the last of GR, of UK":         {right('A'), 0xFF, 0x7F},
		"a shift is for GL":             {charset.Shift(charset.Set(plain, 3, '0'), 3), 'q', 0x2500},
		"and not for GR":                {charset.Shift(charset.Set(plain, 3, '0'), 3), 0xF1, 0xF1},
		"a shift is ahead of GL":        {charset.Shift(left('0'), 2), 'q', 'q'},
		"below 0":                       {left('0'), -1, -1},
		"far below 0":                   {left('0'), math.MinInt + 'q', math.MinInt + 'q'},
		"above MaxRune":                 {left('0'), 0x110000, 0x110000},
		"far above it":                  {left('0'), 1<<32 + 'q', 1<<32 + 'q'},
	} {
		u, n := charset.Map(y.s, y.r)
		if n != y.want {
			t.Errorf("P4.3: %s: %x", name, n)
		}
		u.Once = y.s.Once
		if u != y.s {
			t.Errorf("P4.3: %s: from %v to %v", name, y.s, u)
		}
	}
}

func TestWhatEndsAShift(t *testing.T) {
	for _, once := range []int{2, 3} {
		s := charset.Shift(charset.State{G: [4]byte{'B', 'A', '0', '0'}, GL: 1, GR: 3}, once)
		ended := s
		ended.Once = 0
		for _, r := range []int{0x20, 0x21, 'q', 0x7E, 0xA0, 0xA1, 0xFF, 0x100, 0x20AC, 0xD800, 0xDFFF, 0xFFFD, 0x10FFFF, 0x110000, 1 << 32, 1<<32 + 7, math.MaxInt} {
			if u, _ := charset.Map(s, r); u != ended {
				t.Errorf("P4.3: %x is behind a shift: %v", r, u)
			}
		}
		for _, r := range []int{math.MinInt, math.MinInt + 'q', -'q', -1, 0, 7, 0x1B, 0x1F, 0x7F, 0x80, 0x8E, 0x9E, 0x9F} {
			if u, n := charset.Map(s, r); u != s || n != r {
				t.Errorf("P4.3: %x is no letter for a shift: %v, %x", r, u, n)
			}
		}
	}
}

// TestOneLetter asks P4.5: what is locked stays, also behind a shift.
func TestOneLetter(t *testing.T) {
	for _, s := range states() {
		for _, once := range []int{2, 3} {
			var n [3]int
			u := charset.Shift(s, once)
			u, n[0] = charset.Map(u, 0x0A)
			u, n[1] = charset.Map(u, 'q')
			u, n[2] = charset.Map(u, 'q')
			if n != [3]int{0x0A, by(s.G[once], 'q'), by(s.G[s.GL], 'q')} {
				t.Errorf("P4.5: %v, shifted to %d: %x", s, once, n)
			}
			if u.G != s.G || u.GL != s.GL || u.GR != s.GR || u.Once != 0 {
				t.Errorf("P4.5: %v, shifted to %d: is now %v", s, once, u)
			}
		}
	}
}

func TestLockedStays(t *testing.T) {
	s := charset.Set(charset.Set(charset.New(), 1, '0'), 3, 'A')
	s = charset.Lock(charset.Lock(s, 1, false), 3, true)
	for range 3 {
		for r, want := range map[int]int{'q': 0x2500, '#': '#', 0xA3: 0xA3, 0xE9: 0x69, 7: 7, 0x20AC: 0x20AC} {
			u, n := charset.Map(s, r)
			if u != s || n != want {
				t.Errorf("P4.5: %x: %v, %x", r, u, n)
			}
			s = u
		}
	}
}

func TestGraphic(t *testing.T) {
	if n := len(dec()); n != 0x7E-0x5F+1 {
		t.Fatalf("the test's own list has %d letters", n)
	}
	for _, r := range letters() {
		if n := charset.Graphic(r); n != by('0', r) {
			t.Errorf("P4.4: Graphic of %x: %x", r, n)
		}
	}
	for r, want := range map[int]int{0x5E: 0x5E, 0x5F: 0x20, 0x60: 0x25C6, 'a': 0x2592, 'j': 0x2518, 'q': 0x2500, 'x': 0x2502, '{': 0x3C0, '}': 0xA3, 0x7E: 0xB7, 0x7F: 0x7F, 0xDF: 0xDF, 0xF1: 0xF1} {
		if n := charset.Graphic(r); n != want {
			t.Errorf("P4.4: Graphic of %x: %x", r, n)
		}
	}
}

func TestUK(t *testing.T) {
	for _, r := range letters() {
		want := r
		if r == 0x23 {
			want = 0xA3
		}
		if n := charset.UK(r); n != want {
			t.Errorf("P4.4: UK of %x: %x", r, n)
		}
	}
	if charset.UK(0x22) != 0x22 || charset.UK(0x23) != 0xA3 || charset.UK(0x24) != 0x24 {
		t.Error("P4.4: UK next to 23")
	}
}
