package parse_test

import (
	"slices"
	"testing"

	"lapwing/api"
	"lapwing/params"
	"lapwing/parse"
)

// roomy is a list with room behind the end of it, and of each of its parameters.
func roomy(p params.List) params.List {
	var l [][]int
	for _, numbers := range p.L {
		l = append(l, slices.Grow(slices.Clone(numbers), 3))
	}
	return params.List{L: slices.Grow(l, 3), Open: p.Open}
}

// whole is all of a list, with its room.
func whole(l [][]int) [][]int {
	var out [][]int
	for _, numbers := range l[:cap(l)] {
		out = append(out, slices.Clone(numbers[:cap(numbers)]))
	}
	return out
}

// TestWhatIsHandedIn asks R3 of a State's Params and of a list of letters, with what lies behind their ends.
func TestWhatIsHandedIn(t *testing.T) {
	lists := slices.Concat(full(), badLists(), []params.List{{}, open(many(1, -1)), open(many(3, 4, 5))})
	few := []int{'7', '9', ';', ':', '?', '$', 'm', 0x07, 0x18, 0x1B, 0x7F, 0x85, 0x9B, 0x9C, 0xA0, -1}
	for at := parse.Ground; at <= parse.Sos; at++ {
		for _, p := range lists {
			s := parse.State{At: at, Params: roomy(p), Text: "t", Kind: '^'}
			if at == parse.Ground {
				s.Text, s.Kind = "", 0
			}
			was, l := whole(s.Params.L), len(s.Params.L)
			for _, r := range few {
				parse.Step(s, r)
				letters := slices.Grow([]int{r, '3', ';', r, ':', '4', 'm'}, 3)
				had := slices.Clone(letters[:cap(letters)])
				parse.Feed(s, letters)
				if now := letters[:cap(letters)]; !slices.Equal(now, had) {
					t.Fatalf("R3: at %d: %x is now %x", at, had, now)
				}
			}
			parse.Sane(s)
			if !same(whole(s.Params.L), was) || len(s.Params.L) != l {
				t.Fatalf("R3: at %d: %v is now %v", at, was, whole(s.Params.L))
			}
		}
	}
}

// record is what was answered, and what it was then.
type record struct {
	s, was parse.State
	a, had []api.Action
}

// kept is a record of an answer.
func kept(s parse.State, a []api.Action) record {
	y := record{s: s, was: s, a: a, had: slices.Clone(a)}
	y.was.Params.L = twin(s.Params.L)
	for k := range y.had {
		y.had[k].Params = twin(a[k].Params)
	}
	return y
}

// twin is l, sharing nothing with it.
func twin(l [][]int) [][]int {
	var out [][]int
	for _, numbers := range l {
		out = append(out, slices.Clone(numbers))
	}
	return out
}

// TestWhatWasAnswered asks R3 of answers: what is made of a state, or of what was made of it, later on leaves them as they are.
func TestWhatWasAnswered(t *testing.T) {
	few := []int{'7', '9', ';', ':', '$', '?', 'm', 0x1B, '[', 0x9B, 0x9C, 0xA0}
	for at := parse.Escape; at <= parse.Sos; at++ {
		for _, p := range append(full(), params.List{}, open(many(1, -1)), open(many(3, 4, 5))) {
			s := parse.State{At: at, Params: roomy(p)}
			var all []record
			for _, first := range few {
				u, a := parse.Step(s, first)
				all = append(all, kept(u, a))
				for _, second := range few {
					v, b := parse.Step(u, second)
					all = append(all, kept(v, b))
					for _, third := range few {
						all = append(all, kept(parse.Feed(v, []int{third, '5', ';', 'm', 0x9B, third, ':', '6'})))
					}
				}
			}
			for _, y := range all {
				if !alike(y.s, y.was) || !equal(y.a, y.had) {
					t.Fatalf("R3: at %d, %v: %+v, %v is now %+v, %v", at, p, y.was, y.had, y.s, y.a)
				}
			}
		}
	}
}
