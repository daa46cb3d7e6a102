package ucd_test

import (
	"math"
	"slices"
	"testing"

	"lapwing/ucd"
)

// bracket is what Bracket answers.
type bracket struct{ other, kind int }

func TestMirror(t *testing.T) {
	want := map[int]int{}
	for _, p := range mirrorPairs() {
		want[p.A], want[p.B] = p.B, p.A
	}
	if len(want) != 54 {
		t.Errorf("the test's own mirrors: %d letters", len(want))
	}
	d := ucd.Load()
	for r := -3; r <= 0x110003; r++ {
		w, ok := want[r]
		if !ok {
			w = r
		}
		if m := ucd.Mirror(d, r); m != w {
			t.Errorf("P2.2: Mirror of %x: %x, not %x", r, m, w)
		}
	}
}

func TestBracket(t *testing.T) {
	want := map[int]bracket{}
	for _, p := range bracketPairs() {
		want[p.A], want[p.B] = bracket{p.B, 1}, bracket{p.A, 2}
	}
	if len(want) != 16 {
		t.Errorf("the test's own brackets: %d letters", len(want))
	}
	d := ucd.Load()
	for r := -3; r <= 0x110003; r++ {
		if o, k := ucd.Bracket(d, r); (bracket{o, k}) != want[r] {
			t.Errorf("P2.2: Bracket of %x: %x, %d", r, o, k)
		}
	}
}

func TestOtherPairs(t *testing.T) {
	for name, y := range map[string]struct {
		l         []ucd.Pair
		r, mirror int
		want      bracket
	}{
		"none":                  {nil, 5, 5, bracket{}},
		"not in it":             {[]ucd.Pair{{A: 4, B: 6}}, 5, 5, bracket{}},
		"A":                     {[]ucd.Pair{{A: 4, B: 6}}, 4, 6, bracket{6, 1}},
		"B":                     {[]ucd.Pair{{A: 4, B: 6}}, 6, 4, bracket{4, 2}},
		"the last pair":         {[]ucd.Pair{{A: 4, B: 6}, {A: 7, B: 8}}, 8, 7, bracket{7, 2}},
		"A, below B":            {[]ucd.Pair{{A: 6, B: 4}}, 6, 4, bracket{4, 1}},
		"both the same":         {[]ucd.Pair{{A: 5, B: 5}}, 5, 5, bracket{5, 1}},
		"both the same, first":  {[]ucd.Pair{{A: 5, B: 5}, {A: 5, B: 6}}, 5, 5, bracket{5, 1}},
		"both the same, second": {[]ucd.Pair{{A: 5, B: 6}, {A: 5, B: 5}}, 5, 6, bracket{6, 1}},
		"A twice":               {[]ucd.Pair{{A: 5, B: 6}, {A: 5, B: 7}}, 5, 6, bracket{6, 1}},
		"B twice":               {[]ucd.Pair{{A: 6, B: 5}, {A: 7, B: 5}}, 5, 6, bracket{6, 2}},
		"B, and then A":         {[]ucd.Pair{{A: 6, B: 5}, {A: 5, B: 7}}, 5, 6, bracket{6, 2}},
		"A, and then B":         {[]ucd.Pair{{A: 5, B: 7}, {A: 6, B: 5}}, 5, 7, bracket{7, 1}},
		"a pair told twice":     {[]ucd.Pair{{A: 5, B: 7}, {A: 5, B: 7}}, 7, 5, bracket{5, 2}},
		"its other one is 0":    {[]ucd.Pair{{A: 0, B: 7}, {A: 8, B: 7}}, 7, 0, bracket{0, 2}},
		"0":                     {[]ucd.Pair{{A: 0, B: 7}}, 0, 7, bracket{7, 1}},
		"0 and 0":               {[]ucd.Pair{{}}, 0, 0, bracket{0, 1}},
		"below 0":               {[]ucd.Pair{{A: -1, B: math.MinInt}}, -1, math.MinInt, bracket{math.MinInt, 1}},
		"the least int":         {[]ucd.Pair{{A: -1, B: math.MinInt}}, math.MinInt, -1, bracket{-1, 2}},
		"the greatest int":      {[]ucd.Pair{{A: math.MaxInt, B: 0x110000}}, math.MaxInt, 0x110000, bracket{0x110000, 1}},
	} {
		was := slices.Clone(y.l)
		if m := ucd.Mirror(ucd.Data{Mirror: y.l}, y.r); m != y.mirror {
			t.Errorf("P2.2: %s: Mirror %d", name, m)
		}
		if o, k := ucd.Bracket(ucd.Data{Brackets: y.l}, y.r); (bracket{o, k}) != y.want {
			t.Errorf("P2.2: %s: Bracket %d, %d", name, o, k)
		}
		// What the other table has is nothing to either.
		if m := ucd.Mirror(ucd.Data{Brackets: y.l}, y.r); m != y.r {
			t.Errorf("P2.2: %s: Mirror %d, of brackets", name, m)
		}
		if o, k := ucd.Bracket(ucd.Data{Mirror: y.l}, y.r); o != 0 || k != 0 {
			t.Errorf("P2.2: %s: Bracket %d, %d, of mirrors", name, o, k)
		}
		if !slices.Equal(y.l, was) {
			t.Errorf("R3: %s: what was handed in is changed", name)
		}
	}
}
