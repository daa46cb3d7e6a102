package pen_test

import (
	"slices"
	"testing"

	"lapwing/api"
	"lapwing/pen"
)

// left is what lies in the room behind a list's end.
const left = 7

// roomy is l with room behind the end of it, and of each of its parameters.
func roomy(l [][]int) [][]int {
	out := make([][]int, 0, len(l)+5)
	for _, numbers := range l {
		r := append(make([]int, 0, len(numbers)+5), numbers...)
		for k := len(r); k < cap(r); k++ {
			r[:cap(r)][k] = left
		}
		out = append(out, r)
	}
	for k := len(out); k < cap(out); k++ {
		out[:cap(out)][k] = []int{left}
	}
	return out
}

// whole is all of a list, with its room.
func whole(l [][]int) [][]int {
	var out [][]int
	for _, numbers := range l[:cap(l)] {
		out = append(out, slices.Clone(numbers[:cap(numbers)]))
	}
	return out
}

// TestWhatIsHandedIn asks R3 of a list and of its parameters, with what lies behind their ends, and that nothing behind an end is read.
func TestWhatIsHandedIn(t *testing.T) {
	some := [][]int{{}, {-1}, {1}, {4}, {4, 2}, {5}, {2}, {38}, {48}, {38, 5}, {38, 5, 7}, {48, 2, 1, 2, 3}, {48, 2, 9, 1, 2, 3}, {38, 2, 9, 1, 2, 3, 4}, {48, 2, 256, 1, 2}}
	lists(some, 3, func(l [][]int) {
		had := roomy(l)
		was := whole(had)
		for _, p := range []api.Pen{{}, full, {Fg: -1}} {
			if u, again := pen.Apply(p, had), pen.Apply(p, twin(l)); u != again {
				t.Fatalf("%v of %+v: %+v, and %+v with room behind it", l, p, again, u)
			}
		}
		if now := whole(had); !same(now, was) || len(had) != len(l) {
			t.Fatalf("R3: %v is now %v", was, now)
		}
	})
}

// TestPrintTellsNewMemory asks that no two lists of an answer, and no two answers, share memory.
func TestPrintTellsNewMemory(t *testing.T) {
	for _, p := range pens() {
		a, b := pen.Print(p), pen.Print(p)
		want := printed(p)
		for k, numbers := range a {
			if !slices.Equal(numbers, want[k]) {
				t.Fatalf("R3: the parameters printed of %+v share memory: %v, not %v", p, numbers, want[k])
			}
			for j := range cap(numbers) {
				numbers[:cap(numbers)][j] = 777
			}
		}
		if !same(b, want) || !same(pen.Print(p), want) {
			t.Fatalf("R3: what is printed of %+v is %v, not %v", p, b, want)
		}
	}
}
