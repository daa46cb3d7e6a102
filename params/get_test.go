package params_test

import (
	"math"
	"slices"
	"testing"

	"lapwing/params"
)

// some is parameters of all kinds, also of those that may not be.
func some() [][]int {
	return [][]int{{5}, {-1}, {0}, {}, nil, {7, 8}, {-1, 9}, {0, 9}, {-2}, {-2, 4}, {65535}, {65536}, {math.MinInt}, {math.MaxInt, 1}}
}

// first is what Get tells of each parameter of some, if 42 is usual.
func first() []int {
	return []int{5, 42, 0, 42, 42, 7, 42, 0, -2, -2, 65535, 65536, math.MinInt, math.MaxInt}
}

// outside are places that n parameters don't have.
func outside(n int) []int {
	return slices.Concat([]int{-1, -2, -n, n, n + 1, 2 * n, -3 - n}, far)
}

func TestGet(t *testing.T) {
	l := some()
	for k, want := range first() {
		if n := params.Get(l, k, 42); n != want {
			t.Errorf("P5.4: Get of %v: %d", l[k], n)
		}
	}
	for _, usual := range slices.Concat([]int{-2, -1, 0, 1, 9}, far) {
		for _, k := range outside(len(l)) {
			if n := params.Get(l, k, usual); n != usual {
				t.Errorf("P5.4: Get at %d, usually %d: %d", k, usual, n)
			}
		}
		for k, want := range map[int]int{0: 5, 1: usual, 2: 0, 3: usual, 4: usual, 6: usual, 7: 0, 8: -2} {
			if n := params.Get(l, k, usual); n != want {
				t.Errorf("P5.4: Get of %v, usually %d: %d", l[k], usual, n)
			}
		}
		for _, k := range []int{-1, 0, 1, math.MinInt, math.MaxInt} {
			if params.Get(nil, k, usual) != usual || params.Get([][]int{}, k, usual) != usual {
				t.Errorf("P5.4: Get at %d of nothing, usually %d", k, usual)
			}
		}
	}
}

// between is n brought to least to most, as P5.4 says it.
func between(n, least, most int) int {
	switch {
	case least > most:
		return least
	case n < least:
		return least
	case n > most:
		return most
	}
	return n
}

func TestCountOfAll(t *testing.T) {
	l := some()
	edges := slices.Concat([]int{-3, -2, -1, 0, 1, 2, 4, 5, 6, 7, 8, 42}, far)
	for k, n := range first() {
		for _, usual := range []int{42, 0, -1, -2, 6, math.MinInt, math.MaxInt} {
			want := n
			if n == 42 || n == 0 {
				want = usual
			}
			for _, least := range edges {
				for _, most := range edges {
					if is := params.Count(l, k, usual, least, most); is != between(want, least, most) {
						t.Errorf("P5.4: Count of %v, usually %d, %d to %d: %d", l[k], usual, least, most, is)
					}
				}
			}
		}
	}
	for _, k := range outside(len(l)) {
		for _, usual := range edges {
			if n := params.Count(l, k, usual, -2, 6); n != between(usual, -2, 6) {
				t.Errorf("P5.4: Count at %d, usually %d: %d", k, usual, n)
			}
		}
	}
}

func TestCount(t *testing.T) {
	for name, y := range map[string]struct {
		l                           [][]int
		k, usual, least, most, want int
	}{
		"as it is":                    {[][]int{{5}}, 0, 1, 0, 9, 5},
		"the least":                   {[][]int{{5}}, 0, 1, 5, 9, 5},
		"below the least":             {[][]int{{5}}, 0, 1, 6, 9, 6},
		"the most":                    {[][]int{{5}}, 0, 1, 0, 5, 5},
		"above the most":              {[][]int{{5}}, 0, 1, 0, 4, 4},
		"0 is the usual one":          {[][]int{{0}}, 0, 3, 1, 9, 3},
		"-1 is the usual one":         {[][]int{{-1}}, 0, 3, 1, 9, 3},
		"none is the usual one":       {nil, 0, 3, 1, 9, 3},
		"usual 0":                     {[][]int{{0}}, 0, 0, -5, 9, 0},
		"usual 0, brought up":         {[][]int{{-1}}, 0, 0, 2, 9, 2},
		"usual below":                 {[][]int{{0}}, 0, -3, 1, 9, 1},
		"usual above":                 {[][]int{{}}, 0, 30, 1, 9, 9},
		"0 and usual -1":              {[][]int{{0}}, 0, -1, -5, 9, -1},
		"below -1":                    {[][]int{{-2}}, 0, 3, -5, 9, -2},
		"least above most":            {[][]int{{5}}, 0, 1, 7, 6, 7},
		"least above most, and above": {[][]int{{9}}, 0, 1, 7, 6, 7},
		"least above most, and below": {[][]int{{1}}, 0, 1, 7, 6, 7},
		"far apart":                   {[][]int{{5}}, 0, 1, math.MaxInt, math.MinInt, math.MaxInt},
		"all that there are":          {[][]int{{5}}, 0, 1, math.MinInt, math.MaxInt, 5},
		"the second one":              {[][]int{{5}, {6}}, 1, 1, 0, 9, 6},
		"the first of its numbers":    {[][]int{{5}, {6, 7}}, 1, 1, 0, 9, 6},
		"behind the last":             {[][]int{{5}, {6}}, 2, 1, 0, 9, 1},
		"ahead of the first":          {[][]int{{5}, {6}}, -1, 1, 0, 9, 1},
	} {
		if n := params.Count(y.l, y.k, y.usual, y.least, y.most); n != y.want {
			t.Errorf("P5.4: %s: %d", name, n)
		}
	}
}
