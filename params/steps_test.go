package params_test

import (
	"testing"

	"lapwing/params"
)

func TestSane(t *testing.T) {
	for _, p := range sane() {
		if !params.Sane(p) {
			t.Errorf("P5.1: %v is not Sane", p)
		}
	}
	for _, y := range faults() {
		if params.Sane(y.p) {
			t.Errorf("P5.1: %s: Sane", y.name)
		}
	}
}

func TestWhatIsNotSane(t *testing.T) {
	nothing := params.List{}
	for _, y := range faults() {
		for c := range 256 {
			if u := params.Digit(y.p, byte(c)); !alike(u, nothing) {
				t.Fatalf("P5.1: %s: Digit of %q: %v", y.name, byte(c), u)
			}
		}
		if u := params.Next(y.p); !alike(u, nothing) {
			t.Errorf("P5.1: %s: Next: %v", y.name, u)
		}
		if u := params.Sub(y.p); !alike(u, nothing) {
			t.Errorf("P5.1: %s: Sub: %v", y.name, u)
		}
	}
}

func TestDigit(t *testing.T) {
	for _, p := range sane() {
		for c := range 256 {
			want := withDigit(p, byte(c))
			if u := params.Digit(p, byte(c)); !alike(u, want) {
				t.Errorf("P5.2: %v: Digit of %q: %v, not %v", p, byte(c), u, want)
			}
		}
	}
}

func TestDigitOfEveryNumber(t *testing.T) {
	for n := -1; n <= 65535; n++ {
		p := params.List{L: [][]int{{7}, {3, n}}, Open: true}
		for d := range 10 {
			u := params.Digit(p, byte('0'+d))
			if want := [][]int{{7}, {3, digits(n, d)}}; !u.Open || !same(u.L, want) {
				t.Fatalf("P5.2: %v: Digit of %d: %v", p, d, u)
			}
		}
	}
}

func TestDigitAtMaxNumber(t *testing.T) {
	for _, y := range []struct {
		n    int
		c    byte
		want int
	}{
		{-1, '0', 0}, {-1, '9', 9}, {0, '0', 0}, {0, '7', 7}, {4, '2', 42}, {6552, '9', 65529},
		{6553, '4', 65534}, {6553, '5', 65535}, {6553, '6', 65535}, {6553, '9', 65535}, {6554, '0', 65535},
		{9999, '9', 65535}, {65534, '0', 65535}, {65535, '0', 65535}, {65535, '5', 65535}, {65535, '9', 65535},
	} {
		u := params.Digit(params.List{L: [][]int{{y.n}}, Open: true}, y.c)
		if !alike(u, params.List{L: [][]int{{y.want}}, Open: true}) {
			t.Errorf("P5.2: %d, and %q: %v", y.n, y.c, u)
		}
	}
}

func TestNext(t *testing.T) {
	for _, p := range sane() {
		if u, want := params.Next(p), withNext(p); !alike(u, want) {
			t.Errorf("P5.2: %v: Next: %v, not %v", p, u, want)
		}
	}
}

func TestSub(t *testing.T) {
	for _, p := range sane() {
		if u, want := params.Sub(p), withSub(p); !alike(u, want) {
			t.Errorf("P5.2: %v: Sub: %v, not %v", p, u, want)
		}
	}
}

// TestWithoutRoom asks P5.2 of what comes when there was none: it is lost, until there is room again.
func TestWithoutRoom(t *testing.T) {
	six := params.List{L: [][]int{{1, 2, 3, 4, 5, 6}}, Open: true}
	lost := params.Sub(six)
	for _, u := range []params.List{lost, params.Digit(lost, '7'), params.Sub(lost), params.Sub(params.Digit(lost, '7')), params.Digit(lost, 'x')} {
		if !alike(u, params.List{L: six.L}) {
			t.Errorf("P5.2: a seventh number: %v", u)
		}
	}
	if u := params.Digit(params.Next(lost), '7'); !alike(u, params.List{L: [][]int{{1, 2, 3, 4, 5, 6}, {7}}, Open: true}) {
		t.Errorf("P5.2: Next, behind a Sub without room: %v", u)
	}
	if u := params.Sub(params.List{L: [][]int{{1}}}); !alike(u, params.List{L: [][]int{{1}}}) {
		t.Errorf("P5.2: Sub of what does not go on: %v", u)
	}
	full := params.List{L: long(16, 8), Open: true}
	lost = params.Next(full)
	for _, u := range []params.List{lost, params.Digit(lost, '7'), params.Next(lost), params.Sub(lost), params.Digit(params.Sub(lost), '7')} {
		if !alike(u, params.List{L: full.L}) {
			t.Errorf("P5.2: a parameter more than 16: %v", u)
		}
	}
	if u := params.Digit(params.Sub(full), '7'); !alike(u, params.List{L: long(16, 8, 7), Open: true}) {
		t.Errorf("P5.2: a second number of the last one: %v", u)
	}
}

// TestStaysSane asks P5.5: whatever comes, nothing is too great.
func TestStaysSane(t *testing.T) {
	for _, p := range sane() {
		for _, u := range []params.List{params.Digit(p, '9'), params.Digit(p, 'x'), params.Next(p), params.Sub(p)} {
			if !params.Sane(u) {
				t.Errorf("P5.5: of %v comes %v", p, u)
			}
		}
	}
	seed := uint64(5)
	p := params.List{}
	for range 20000 {
		seed = seed*6364136223846793005 + 1442695040888963407
		switch c := byte(seed >> 33); c % 8 {
		case 0:
			p = params.Next(p)
		case 1, 2:
			p = params.Sub(p)
		case 3:
			p = params.Digit(p, c)
		default:
			p = params.Digit(p, '0'+c%10)
		}
		if !params.Sane(p) {
			t.Fatalf("P5.5: %v", p)
		}
		if c := seed >> 50; c%300 == 0 {
			p = params.List{}
		}
	}
}
