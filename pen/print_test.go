package pen_test

import (
	"testing"

	"lapwing/api"
	"lapwing/params"
	"lapwing/pen"
)

// onto are pens that others are made of.
var onto = []api.Pen{{}, full, {Fg: 2, Flags: pen.Under | pen.Double}, {Fg: 256, Bg: 1<<25 - 1, Flags: 0xA5}}

// asked holds what is printed of p against P7.4, and what that makes against P7.5.
func asked(t *testing.T, p api.Pen) {
	t.Helper()
	l := pen.Print(p)
	if want := printed(p); !same(l, want) {
		t.Fatalf("P7.4: %+v: %v, not %v", p, l, want)
	}
	want := p
	if p.Flags&pen.Double != 0 {
		want.Flags = p.Flags &^ pen.Under
	}
	for _, old := range onto {
		if u := pen.Apply(old, l); u != want {
			t.Fatalf("P7.5: %v of %+v: %+v, not %+v", l, old, u, want)
		}
	}
}

func TestPrint(t *testing.T) {
	for p, want := range map[api.Pen]string{
		{}:                                     "0",
		{Flags: pen.Bold}:                      "0;1",
		{Flags: pen.Faint}:                     "0;2",
		{Flags: pen.Italic}:                    "0;3",
		{Flags: pen.Under}:                     "0;4",
		{Flags: pen.Blink}:                     "0;5",
		{Flags: pen.Inverse}:                   "0;7",
		{Flags: pen.Hidden}:                    "0;8",
		{Flags: pen.Struck}:                    "0;9",
		{Flags: pen.Double}:                    "0;21",
		{Flags: 511}:                           "0;1;2;3;4;5;7;8;9;21",
		{Flags: pen.Under | pen.Double}:        "0;4;21",
		{Flags: pen.Faint | pen.Double}:        "0;2;21",
		{Fg: 1}:                                "0;30",
		{Fg: 8}:                                "0;37",
		{Fg: 9}:                                "0;90",
		{Fg: 16}:                               "0;97",
		{Fg: 17}:                               "0;38;5;16",
		{Fg: 256}:                              "0;38;5;255",
		{Bg: 1}:                                "0;40",
		{Bg: 8}:                                "0;47",
		{Bg: 9}:                                "0;100",
		{Bg: 16}:                               "0;107",
		{Bg: 17}:                               "0;48;5;16",
		{Bg: 256}:                              "0;48;5;255",
		{Fg: 1 << 24}:                          "0;38;2;0;0;0",
		{Bg: 1 << 24}:                          "0;48;2;0;0;0",
		{Fg: 1<<25 - 1}:                        "0;38;2;255;255;255",
		{Bg: 1<<25 - 1}:                        "0;48;2;255;255;255",
		{Fg: 0x100FF00, Bg: 0x1FF00FF}:         "0;38;2;0;255;0;48;2;255;0;255",
		{Fg: 0x1010203, Bg: 3, Flags: 128}:     "0;9;38;2;1;2;3;42",
		{Fg: 2, Bg: 0x1010203, Flags: 1 + 256}: "0;1;21;31;48;2;1;2;3",
		{Fg: -1}:                               "",
		{Bg: 257}:                              "",
		{Flags: 512}:                           "",
	} {
		l := pen.Print(p)
		if is := params.Print(l); is != want {
			t.Errorf("P7.4: %+v: %q, not %q", p, is, want)
		}
		for _, numbers := range l {
			if len(numbers) != 1 {
				t.Errorf("P7.4: %+v: %v is not a number each", p, l)
			}
		}
	}
}

func TestPrintOfAllFlags(t *testing.T) {
	for flags := range 512 {
		for _, fg := range []int{0, 8, 17, 1<<24 + 0x010203} {
			for _, bg := range []int{0, 16, 256, 1<<25 - 1} {
				asked(t, api.Pen{Fg: fg, Bg: bg, Flags: flags})
			}
		}
	}
}

func TestPrintOfAllColours(t *testing.T) {
	all := append([]int{}, colours...)
	for n := range 257 {
		all = append(all, n)
	}
	for k := range 256 {
		all = append(all, 1<<24+k, 1<<24+k<<8, 1<<24+k<<16, 1<<24+k*0x010101)
	}
	for _, c := range all {
		for _, flags := range []int{0, 1, 8 + 256, 511} {
			asked(t, api.Pen{Fg: c, Flags: flags})
			asked(t, api.Pen{Bg: c, Flags: flags})
			asked(t, api.Pen{Fg: c, Bg: c, Flags: flags})
		}
	}
}

func TestPrintOfPens(t *testing.T) {
	for _, p := range pens() {
		asked(t, p)
	}
}
