package charset_test

import (
	"testing"

	"lapwing/charset"
)

// start is New, as P4.1 says it.
var start = charset.State{G: [4]byte{'B', 'B', 'B', 'B'}, GL: 0, GR: 2, Once: 0}

func TestNew(t *testing.T) {
	s := charset.New()
	if s.G != start.G {
		t.Errorf("P4.1: G is %q", s.G)
	}
	if s.GL != 0 || s.GR != 2 || s.Once != 0 {
		t.Errorf("P4.1: GL is %d, GR %d, Once %d", s.GL, s.GR, s.Once)
	}
	if !charset.Sane(s) {
		t.Error("P4.1: New is not Sane")
	}
}

func TestSane(t *testing.T) {
	for _, s := range states() {
		if !charset.Sane(s) {
			t.Errorf("P4.1: %v is not Sane", s)
		}
	}
	for _, y := range faults() {
		if charset.Sane(y.s) {
			t.Errorf("P4.1: %s: Sane", y.name)
		}
	}
	if charset.Sane(charset.State{}) {
		t.Error("P4.1: the State of zeros is Sane")
	}
}

func TestWhatIsNotSane(t *testing.T) {
	for _, y := range append(faults(), fault{"zeros", charset.State{}}) {
		for _, which := range places() {
			for _, final := range []byte("B0AZ\x00") {
				if u := charset.Set(y.s, which, final); u != start {
					t.Errorf("P4.2: %s: Set of %d, %q: %v", y.name, which, final, u)
				}
			}
			for _, right := range []bool{false, true} {
				if u := charset.Lock(y.s, which, right); u != start {
					t.Errorf("P4.2: %s: Lock of %d, %v: %v", y.name, which, right, u)
				}
			}
			if u := charset.Shift(y.s, which); u != start {
				t.Errorf("P4.2: %s: Shift of %d: %v", y.name, which, u)
			}
		}
		for _, r := range letters() {
			if u, n := charset.Map(y.s, r); u != start || n != r {
				t.Errorf("P4.2: %s: Map of %x: %v, %x", y.name, r, u, n)
			}
		}
	}
}

func TestSet(t *testing.T) {
	for _, s := range states() {
		for _, which := range places() {
			for _, final := range []byte("B0AZab1C@/\x00\xC2\xFF") {
				want := s
				for k := range 4 {
					if k == which && (final == 'B' || final == '0' || final == 'A') {
						want.G[k] = final
					}
				}
				if u := charset.Set(s, which, final); u != want {
					t.Errorf("P4.2: %v: Set of %d, %q: %v", s, which, final, u)
				}
			}
		}
	}
}

func TestSetOfEveryByte(t *testing.T) {
	s := charset.State{G: [4]byte{'0', '0', '0', '0'}, GL: 3, GR: 1, Once: 3}
	for c := range 256 {
		want := s
		if c == 'A' || c == 'B' {
			want.G[1] = byte(c)
		}
		if u := charset.Set(s, 1, byte(c)); u != want {
			t.Errorf("P4.2: Set of %q: %v", byte(c), u)
		}
	}
}

func TestLock(t *testing.T) {
	for _, s := range states() {
		for _, which := range places() {
			left, right := s, s
			if which >= 0 && which <= 3 {
				left.GL, right.GR = which, which
			}
			if u := charset.Lock(s, which, false); u != left {
				t.Errorf("P4.2: %v: Lock of %d: %v", s, which, u)
			}
			if u := charset.Lock(s, which, true); u != right {
				t.Errorf("P4.2: %v: Lock of %d to the right: %v", s, which, u)
			}
		}
	}
}

func TestShift(t *testing.T) {
	for _, s := range states() {
		for _, which := range places() {
			want := s
			if which == 2 || which == 3 {
				want.Once = which
			}
			if u := charset.Shift(s, which); u != want {
				t.Errorf("P4.2: %v: Shift of %d: %v", s, which, u)
			}
		}
	}
}
