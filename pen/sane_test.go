package pen_test

import (
	"testing"

	"lapwing/api"
	"lapwing/pen"
)

func TestFlags(t *testing.T) {
	is := [...]int{pen.Bold, pen.Faint, pen.Italic, pen.Under, pen.Blink, pen.Inverse, pen.Hidden, pen.Struck, pen.Double}
	if is != [...]int{1, 2, 4, 8, 16, 32, 64, 128, 256} {
		t.Errorf("P7.1: the flags are %v", is)
	}
}

func TestSane(t *testing.T) {
	for _, p := range pens() {
		if !pen.Sane(p) {
			t.Errorf("P7.1: %+v is not Sane", p)
		}
	}
	for _, y := range faults() {
		if pen.Sane(y.p) {
			t.Errorf("P7.1: %s: %+v is Sane", y.name, y.p)
		}
	}
}

// TestSaneAtItsLimits asks P7.1 of each thing that has a limit, at that limit.
func TestSaneAtItsLimits(t *testing.T) {
	for _, c := range []int{0, 1, 2, 128, 255, 256, 1 << 24, 1<<24 + 1, 1<<24 + 1<<23, 1<<25 - 2, 1<<25 - 1} {
		if !pen.Sane(api.Pen{Fg: c}) || !pen.Sane(api.Pen{Bg: c}) || !pen.Sane(api.Pen{Fg: c, Bg: c, Flags: 511}) {
			t.Errorf("P7.1: a pen of %d is not Sane", c)
		}
	}
	for _, c := range []int{-1, 257, 1<<24 - 1, 1 << 25} {
		if pen.Sane(api.Pen{Fg: c}) || pen.Sane(api.Pen{Bg: c}) || pen.Sane(api.Pen{Fg: c, Bg: c}) {
			t.Errorf("P7.1: a pen of %d is Sane", c)
		}
	}
	for flags := -600; flags <= 1200; flags++ {
		if want := flags >= 0 && flags <= 511; pen.Sane(api.Pen{Flags: flags}) != want {
			t.Errorf("P7.1: Flags of %d: Sane is %v", flags, !want)
		}
	}
	for c := -300; c <= 70000; c++ {
		want := c >= 0 && c <= 256
		if pen.Sane(api.Pen{Fg: c}) != want || pen.Sane(api.Pen{Bg: c}) != want {
			t.Errorf("P7.1: %d as Fg and as Bg: not %v", c, want)
		}
	}
}

// TestWhatIsNotSane asks for nothing, whatever is done to a pen that may not be.
func TestWhatIsNotSane(t *testing.T) {
	all := [][][]int{nil, {}, {{}}, {nil}, {{-1}}, {{0}}, {{1}}, {{1}, {31}}, {{6}}, {{4, 2}}, {{31}}, {{39}, {49}}, {{22}, {24}}, {{38}}, {{38}, {5}, {7}}, {{48, 2, 1, 2, 3}}, {{38}, {9}, {1}}, {{0}, {1}, {42}}}
	for _, y := range faults() {
		for _, l := range all {
			if p := pen.Apply(y.p, l); p != (api.Pen{}) {
				t.Errorf("P7.2: %s: Apply of %v: %+v", y.name, l, p)
			}
		}
		if l := pen.Print(y.p); len(l) != 0 {
			t.Errorf("P7.4: %s: Print: %v", y.name, l)
		}
	}
}

func TestRGB(t *testing.T) {
	for _, y := range []struct{ r, g, b, want int }{
		{0, 0, 0, 0x1000000},
		{1, 0, 0, 0x1010000},
		{0, 1, 0, 0x1000100},
		{0, 0, 1, 0x1000001},
		{1, 2, 3, 0x1010203},
		{255, 254, 253, 0x1FFFEFD},
		{255, 255, 255, 0x1FFFFFF},
		{-1, 16, 17, 0x1001011},
		{16, -1, 17, 0x1100011},
		{16, 17, -1, 0x1101100},
		{256, 16, 17, 0x1FF1011},
		{16, 256, 17, 0x110FF11},
		{16, 17, 256, 0x11011FF},
		{-1, -1, -1, 0x1000000},
		{256, 256, 256, 0x1FFFFFF},
		{-5, 256, 7, 0x100FF07},
	} {
		if c := pen.RGB(y.r, y.g, y.b); c != y.want {
			t.Errorf("P7.1: RGB(%d, %d, %d): %x, not %x", y.r, y.g, y.b, c, y.want)
		}
	}
	for _, n := range far {
		to := 0
		if n > 0 {
			to = 255
		}
		if pen.RGB(n, 1, 2) != 0x1000102+to<<16 || pen.RGB(1, n, 2) != 0x1010002+to<<8 || pen.RGB(1, 2, n) != 0x1010200+to || pen.RGB(n, n, n) != 0x1000000+to*0x10101 {
			t.Errorf("P7.1: RGB with %d: it is not brought to %d", n, to)
		}
	}
}

func TestParts(t *testing.T) {
	type parts struct{ kind, a, b, c int }
	ask := func(c int, want parts) {
		t.Helper()
		var is parts
		if is.kind, is.a, is.b, is.c = pen.Parts(c); is != want {
			t.Errorf("P7.1: Parts(%d): %v, not %v", c, is, want)
		}
	}
	ask(0, parts{})
	for n := range 256 {
		ask(n+1, parts{kind: 1, a: n})
	}
	steps := []int{0, 1, 2, 127, 128, 254, 255}
	for _, r := range steps {
		for _, g := range steps {
			for _, b := range steps {
				ask(16777216+65536*r+256*g+b, parts{2, r, g, b})
				ask(pen.RGB(r, g, b), parts{2, r, g, b})
			}
		}
	}
	for _, c := range notColours {
		ask(c, parts{kind: 3})
	}
}
