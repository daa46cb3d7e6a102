package ucd_test

import (
	"math"
	"slices"
	"testing"

	"lapwing/ucd"
)

// formsOf are the four forms of a letter whose forms are n from at on.
func formsOf(at, n int) [4]int {
	switch n {
	case 4:
		return [4]int{at, at + 1, at + 2, at + 3}
	case 2:
		return [4]int{at, at + 1, at, at + 1}
	}
	return [4]int{at, at, at, at}
}

// otherWhich are numbers of no form.
func otherWhich() []int { return []int{math.MinInt, -4, -2, -1, 4, 5, 8, math.MaxInt} }

func TestShapeOfEveryLetter(t *testing.T) {
	want := map[int][4]int{}
	for _, f := range letterForms() {
		want[f.R] = formsOf(f.At, f.N)
	}
	d := ucd.Load()
	for r := -3; r <= 0x110003; r++ {
		w, ok := want[r]
		if !ok {
			w = [4]int{r, r, r, r}
		}
		for which, x := range w {
			if s := ucd.Shape(d, r, which); s != x {
				t.Errorf("P2.3: Shape %d of %x: %x, not %x", which, r, s, x)
			}
		}
	}
	for r := range want {
		for _, which := range otherWhich() {
			if s := ucd.Shape(d, r, which); s != r {
				t.Errorf("P2.3: Shape %d of %x: %x", which, r, s)
			}
		}
	}
}

func TestShapeOfOtherForms(t *testing.T) {
	for name, y := range map[string]struct {
		l    []ucd.Form
		r    int
		want [4]int
	}{
		"none":                     {nil, 5, [4]int{5, 5, 5, 5}},
		"another letter's":         {[]ucd.Form{{R: 6, At: 50, N: 4}}, 5, [4]int{5, 5, 5, 5}},
		"one form":                 {[]ucd.Form{{R: 5, At: 50, N: 1}}, 5, [4]int{50, 50, 50, 50}},
		"two forms":                {[]ucd.Form{{R: 5, At: 50, N: 2}}, 5, [4]int{50, 51, 50, 51}},
		"four forms":               {[]ucd.Form{{R: 5, At: 50, N: 4}}, 5, [4]int{50, 51, 52, 53}},
		"no forms":                 {[]ucd.Form{{R: 5, At: 50, N: 0}}, 5, [4]int{50, 50, 50, 50}},
		"three forms":              {[]ucd.Form{{R: 5, At: 50, N: 3}}, 5, [4]int{50, 50, 50, 50}},
		"five forms":               {[]ucd.Form{{R: 5, At: 50, N: 5}}, 5, [4]int{50, 50, 50, 50}},
		"six forms":                {[]ucd.Form{{R: 5, At: 50, N: 6}}, 5, [4]int{50, 50, 50, 50}},
		"eight forms":              {[]ucd.Form{{R: 5, At: 50, N: 8}}, 5, [4]int{50, 50, 50, 50}},
		"-1 forms":                 {[]ucd.Form{{R: 5, At: 50, N: -1}}, 5, [4]int{50, 50, 50, 50}},
		"-2 forms":                 {[]ucd.Form{{R: 5, At: 50, N: -2}}, 5, [4]int{50, 50, 50, 50}},
		"-4 forms":                 {[]ucd.Form{{R: 5, At: 50, N: -4}}, 5, [4]int{50, 50, 50, 50}},
		"the least int of forms":   {[]ucd.Form{{R: 5, At: 50, N: math.MinInt}}, 5, [4]int{50, 50, 50, 50}},
		"the greatest of forms":    {[]ucd.Form{{R: 5, At: 50, N: math.MaxInt}}, 5, [4]int{50, 50, 50, 50}},
		"twice":                    {[]ucd.Form{{R: 5, At: 50, N: 2}, {R: 5, At: 60, N: 4}}, 5, [4]int{50, 51, 50, 51}},
		"twice, the first is none": {[]ucd.Form{{R: 5, At: 50, N: 0}, {R: 5, At: 60, N: 4}}, 5, [4]int{50, 50, 50, 50}},
		"the second":               {[]ucd.Form{{R: 6, At: 50, N: 2}, {R: 5, At: 60, N: 4}}, 5, [4]int{60, 61, 62, 63}},
		"one form, the last int":   {[]ucd.Form{{R: 5, At: math.MaxInt, N: 1}}, 5, [4]int{math.MaxInt, math.MaxInt, math.MaxInt, math.MaxInt}},
		"two forms, wrapped":       {[]ucd.Form{{R: 5, At: math.MaxInt, N: 2}}, 5, [4]int{math.MaxInt, math.MinInt, math.MaxInt, math.MinInt}},
		"four forms, wrapped":      {[]ucd.Form{{R: 5, At: math.MaxInt, N: 4}}, 5, [4]int{math.MaxInt, math.MinInt, math.MinInt + 1, math.MinInt + 2}},
		"four forms, one wrapped":  {[]ucd.Form{{R: 5, At: math.MaxInt - 2, N: 4}}, 5, [4]int{math.MaxInt - 2, math.MaxInt - 1, math.MaxInt, math.MinInt}},
		"four forms up to the end": {[]ucd.Form{{R: 5, At: math.MaxInt - 3, N: 4}}, 5, [4]int{math.MaxInt - 3, math.MaxInt - 2, math.MaxInt - 1, math.MaxInt}},
		"forms about 0":            {[]ucd.Form{{R: 5, At: -2, N: 4}}, 5, [4]int{-2, -1, 0, 1}},
		"forms at the least int":   {[]ucd.Form{{R: 5, At: math.MinInt, N: 2}}, 5, [4]int{math.MinInt, math.MinInt + 1, math.MinInt, math.MinInt + 1}},
		"of a letter below 0":      {[]ucd.Form{{R: -5, At: 50, N: 4}}, -5, [4]int{50, 51, 52, 53}},
		"of a letter that is 0":    {[]ucd.Form{{R: 0, At: 50, N: 2}}, 0, [4]int{50, 51, 50, 51}},
		"of the greatest int":      {[]ucd.Form{{R: math.MaxInt, At: 50, N: 2}}, math.MaxInt, [4]int{50, 51, 50, 51}},
	} {
		was := slices.Clone(y.l)
		d := ucd.Data{Forms: y.l}
		for which, want := range y.want {
			if s := ucd.Shape(d, y.r, which); s != want {
				t.Errorf("P2.3: %s: Shape %d: %d", name, which, s)
			}
		}
		for _, which := range otherWhich() {
			if s := ucd.Shape(d, y.r, which); s != y.r {
				t.Errorf("P2.3: %s: Shape %d: %d", name, which, s)
			}
		}
		if !slices.Equal(y.l, was) {
			t.Errorf("R3: %s: what was handed in is changed", name)
		}
	}
}

func TestLigature(t *testing.T) {
	for alef, want := range map[int]int{0x622: 0xFEF5, 0x623: 0xFEF7, 0x625: 0xFEF9, 0x627: 0xFEFB} {
		if x, ok := ucd.Ligature(0x644, alef, false); x != want || !ok {
			t.Errorf("P2.3: the ligature of %x: %x, %v", alef, x, ok)
		}
		if x, ok := ucd.Ligature(0x644, alef, true); x != want+1 || !ok {
			t.Errorf("P2.3: the final ligature of %x: %x, %v", alef, x, ok)
		}
	}
}

func TestNoLigature(t *testing.T) {
	alefs := map[int]bool{0x622: true, 0x623: true, 0x625: true, 0x627: true}
	letters := append(outside(), 0, 'a', 0xFEDD, 0xFEDF, 0xFE8D, 0xFEFB, 0x10FFFF)
	for r := 0x5F0; r <= 0x710; r++ {
		letters = append(letters, r)
	}
	for _, lam := range letters {
		for _, alef := range letters {
			if lam == 0x644 && alefs[alef] {
				continue
			}
			for _, final := range []bool{false, true} {
				if x, ok := ucd.Ligature(lam, alef, final); x != 0 || ok {
					t.Errorf("P2.3: Ligature of %x and %x: %x, %v", lam, alef, x, ok)
				}
			}
		}
	}
}
