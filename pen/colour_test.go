package pen_test

import (
	"slices"
	"testing"

	"lapwing/api"
	"lapwing/pen"
)

func TestColourOfItsOwnNumbers(t *testing.T) {
	const none = 2 // what is there ahead stays
	for s, want := range map[string]int{
		":5:0":            1,
		":5:7":            8,
		":5:200":          201,
		":5:255":          256,
		":5:256":          none,
		":5:":             none,
		":5":              none,
		":5:65535":        none,
		":5:7:1:2:3":      8,
		":5:7:256":        8,
		":5::7":           none,
		":2:1:2:3":        0x1010203,
		":2:0:0:0":        0x1000000,
		":2:255:255:255":  0x1FFFFFF,
		":2::1:2:3":       0x1010203,
		":2:9:1:2:3":      0x1010203,
		":2:256:1:2:3":    0x1010203,
		":2:65535:0:0:0":  0x1000000,
		":2:1:2:3:4":      0x1020304,
		":2:1:2:3:":       none,
		":2:1:2:3:256":    none,
		":2::1:2:256":     none,
		":2::1:256:2":     none,
		":2::256:1:2":     none,
		":2:::1:2":        none,
		":2::1::2":        none,
		":2:1:2:256":      none,
		":2:1:256:2":      none,
		":2:256:1:2":      none,
		":2::1:2":         none,
		":2:1::2":         none,
		":2:1:2:":         none,
		":2:1:2":          none,
		":2:1":            none,
		":2:":             none,
		":2":              none,
		":":               none,
		":0":              none,
		":1":              none,
		":3:1:2:3":        none,
		":4:1:2:3:4":      none,
		":6:7":            none,
		"::5:7":           none,
		":0:5:7":          none,
		":1:1:2:3":        none,
		":65535:1:2:3:4":  none,
		":5:07":           8,
		":2:0255:000:001": 0x1FF0001,
	} {
		for _, flags := range []int{0, 8 + 256} {
			p := api.Pen{Fg: 2, Bg: 2, Flags: flags}
			// What follows is done, whether there is a colour or not.
			if u := pen.Apply(p, read(t, "38"+s+";1")); u != (api.Pen{Fg: want, Bg: 2, Flags: flags + 1}) {
				t.Errorf("P7.3: \"38%s;1\": %+v", s, u)
			}
			if u := pen.Apply(p, read(t, "3;48"+s+";9;5;2")); u != (api.Pen{Fg: 2, Bg: want, Flags: flags + 4 + 128 + 16 + 2}) {
				t.Errorf("P7.3: \"3;48%s;9;5;2\": %+v", s, u)
			}
		}
	}
	// More than six numbers, of which those behind blue are left out.
	for _, l := range [][]int{{2, -1, 1, 2, 3, 4}, {2, -1, 1, 2, 3, 256, -9}, {2, far[0], 1, 2, 3, 4, 5, 6, 7}} {
		if u := pen.Apply(api.Pen{Fg: 2}, [][]int{slices.Concat([]int{38}, l), {5}}); u != (api.Pen{Fg: 0x1010203, Flags: pen.Blink}) {
			t.Errorf("P7.3: 38 and %v: %+v", l, u)
		}
	}
}

// TestColourThatFollows tells, of what stands behind 38 or 48, the colour, and whether the 1 and the 9 that end it are done (they are the same as behind a colour) or left out.
func TestColourThatFollows(t *testing.T) {
	const none = 2
	for s, y := range map[string]struct{ want, flags int }{
		";5;0;1;9":             {1, 129},
		";5;7;1;9":             {8, 129},
		";5;255;1;9":           {256, 129},
		";5;256;1;9":           {none, 0},
		";5;;1;9":              {none, 0},
		";5;65535;1;9":         {none, 0},
		";5":                   {none, 0},
		";5;":                  {none, 0},
		";5;7":                 {8, 0},
		";5:9;7:1;1;9":         {8, 129},
		";5;7:256;1;9":         {8, 129},
		";5:;:7;1;9":           {none, 0},
		";2;1;2;3;1;9":         {0x1010203, 129},
		";2;0;0;0;1;9":         {0x1000000, 129},
		";2;255;255;255;1;9":   {0x1FFFFFF, 129},
		";2;1;2;3;4;1;9":       {0x1010203, 129 + 8},
		";2:7:8;1:9;2:;3::4;9": {0x1010203, 128},
		";2;256;2;3;1;9":       {none, 0},
		";2;1;256;3;1;9":       {none, 0},
		";2;1;2;256;1;9":       {none, 0},
		";2;;2;3;1;9":          {none, 0},
		";2;1;;3;1;9":          {none, 0},
		";2;1;2;;1;9":          {none, 0},
		";2;1;2;3":             {0x1010203, 0},
		";2;1;2":               {none, 0},
		";2;1":                 {none, 0},
		";2":                   {none, 0},
		"":                     {none, 0},
		";":                    {none, 0},
		";;5;7;1;9":            {none, 0},
		";0;1;9":               {none, 0},
		";1;1;9":               {none, 0},
		";3;1;2;3;1;9":         {none, 0},
		";4;1;2;3;4;1;9":       {none, 0},
		";6;7;1;9":             {none, 0},
		";7;1;9":               {none, 0},
		";38;5;7;1;9":          {none, 0},
		";65535;1;9":           {none, 0},
		";9;0;1;31;48;5;7":     {none, 0},
	} {
		if u := pen.Apply(api.Pen{Fg: 2, Bg: 2}, read(t, "38"+s)); u != (api.Pen{Fg: y.want, Bg: 2, Flags: y.flags}) {
			t.Errorf("P7.3: \"38%s\": %+v", s, u)
		}
		if u := pen.Apply(api.Pen{Fg: 2, Bg: 2}, read(t, "3;48"+s)); u != (api.Pen{Fg: 2, Bg: y.want, Flags: y.flags | pen.Italic}) {
			t.Errorf("P7.3: \"3;48%s\": %+v", s, u)
		}
	}
}

func TestColoursOneBehindTheOther(t *testing.T) {
	for s, want := range map[string]api.Pen{
		"38;5;1;38;5;3":                  {Fg: 4},
		"38;5;1;48;5;3":                  {Fg: 2, Bg: 4},
		"48;2;1;2;3;38;2;4;5;6;4":        {Fg: 0x1040506, Bg: 0x1010203, Flags: pen.Under},
		"38:5:1;48;5;3;1":                {Fg: 2, Bg: 4, Flags: pen.Bold},
		"38;5;1;48:2::1:2:3;1":           {Fg: 2, Bg: 0x1010203, Flags: pen.Bold},
		"38;5;38;48;5;48":                {Fg: 39, Bg: 49},
		"38;5;1;48;5;256;1":              {Fg: 2},
		"38;5;256;48;5;1":                {},
		"38:5:256;48;5;1":                {Bg: 2},
		"38:9;48:9;1":                    {Flags: pen.Bold},
		"38;2;38;48;5;1":                 {Fg: 0x1263005, Flags: pen.Bold},
		"38;5;7;39":                      {},
		"38;2;1;2;3;48;2;1;2;300;38;5;0": {Fg: 0x1010203},
	} {
		if u := pen.Apply(api.Pen{}, read(t, s)); u != want {
			t.Errorf("P7.3: %q: %+v", s, u)
		}
	}
}

// TestParametersWithoutANumber asks P7.3 of those that no text makes.
func TestParametersWithoutANumber(t *testing.T) {
	p := api.Pen{Fg: 2, Bg: 2}
	for _, n := range []int{38, 48} {
		for _, l := range [][][]int{
			{{n}, {}, {5}, {7}, {1}}, {{n}, nil, {1}}, {{n}, {5}, {}, {7}, {1}}, {{n}, {5}, nil, {1}},
			{{n}, {2}, {}, {1}, {2}, {3}, {1}}, {{n}, {2}, {1}, {}, {2}, {3}, {1}}, {{n}, {2}, {1}, {2}, {}, {3}, {1}}, {{n}, {2}, {1}, {2}, {}},
			{{n}, {}}, {{n}, {5}, {}}, {{}, {n}}, {{}, {n}, {-2}, {1}}, {{n}, {5}, {-2}, {1}},
		} {
			if u := pen.Apply(p, l); u != p {
				t.Errorf("P7.3: %v: %+v", l, u)
			}
		}
		l := [][]int{{n}, {5}, {7}, {}, {1}}
		if u := pen.Apply(p, l); u != applied(p, l) || u.Flags != pen.Bold {
			t.Errorf("P7.3: %v: %+v", l, u)
		}
		l = [][]int{{n}, {2}, {7}, {8}, {9}, nil, {1}}
		if u := pen.Apply(p, l); u != applied(p, l) || u.Flags != pen.Bold {
			t.Errorf("P7.3: %v: %+v", l, u)
		}
	}
}

// TestAllOwnNumbers asks P7.3 of all lists of up to six numbers that something hangs on.
func TestAllOwnNumbers(t *testing.T) {
	p := api.Pen{Fg: 2, Bg: 200, Flags: pen.Under | pen.Double}
	lists([]int{-1, 0, 2, 5, 255, 256}, 6, func(own []int) {
		for _, n := range []int{38, 48} {
			l := [][]int{slices.Concat([]int{n}, own), {5}, {1}, {3}}
			if u, want := pen.Apply(p, l), applied(p, l); u != want || !pen.Sane(u) {
				t.Fatalf("P7.3: %v: %+v, not %+v", l, u, want)
			}
		}
	})
}

// TestAllThatFollow asks P7.3 of all lists of up to five parameters that something hangs on.
func TestAllThatFollow(t *testing.T) {
	p := api.Pen{Fg: 2, Bg: 200, Flags: pen.Under | pen.Double}
	lists([][]int{nil, {-1}, {0}, {2}, {5}, {255}, {256}, {5, 9}, {2, 300}, {38, 5, 1}}, 5, func(more [][]int) {
		for _, n := range []int{38, 48} {
			l := slices.Concat([][]int{{n}}, more)
			if u, want := pen.Apply(p, l), applied(p, l); u != want || !pen.Sane(u) {
				t.Fatalf("P7.3: %v: %+v, not %+v", l, u, want)
			}
		}
	})
}

// TestEachPlaceOfAColour puts every number, and those far away, in each place of what tells a colour.
func TestEachPlaceOfAColour(t *testing.T) {
	numbers := slices.Clone(far)
	for n := -3; n <= 300; n++ {
		numbers = append(numbers, n)
	}
	p := api.Pen{Fg: 2, Bg: 1 << 24, Flags: 3}
	ask := func(l [][]int) {
		t.Helper()
		if u, want := pen.Apply(p, l), applied(p, l); u != want || !pen.Sane(u) {
			t.Fatalf("P7.3: %v: %+v, not %+v", l, u, want)
		}
	}
	for _, good := range [][]int{{38, 5, 7}, {48, 5, 7, 8}, {38, 2, 1, 2, 3}, {48, 2, 1, 2, 3, 4}, {38, 2, 1, 2, 3, 4, 5}, {48, 2, 1, 2, 3, 4, 5, 6}} {
		for k := range good {
			for _, n := range numbers {
				l := slices.Clone(good)
				l[k] = n
				ask([][]int{l, {4}, {9}})
				var each [][]int
				for _, m := range l {
					each = append(each, []int{m})
				}
				ask(append(each, []int{9}))
			}
		}
	}
}
