package params_test

import (
	"testing"

	"lapwing/params"
)

// behind is what lies in the room behind a list's end.
const behind = 777

// roomy is p with room behind the end of it, and of each of its parameters.
func roomy(p params.List) params.List {
	l := make([][]int, 0, len(p.L)+9)
	for _, numbers := range p.L {
		r := append(make([]int, 0, len(numbers)+9), numbers...)
		fill(r)
		l = append(l, r)
	}
	for k := len(l); k < cap(l); k++ {
		l[:cap(l)][k] = []int{behind}
	}
	return params.List{L: l, Open: p.Open}
}

// fill lays behind in the room of numbers.
func fill(numbers []int) {
	for k := len(numbers); k < cap(numbers); k++ {
		numbers[:cap(numbers)][k] = behind
	}
}

// untouched: is p as roomy made it of was?
func untouched(p, was params.List) bool {
	if !alike(p, was) {
		return false
	}
	for _, numbers := range p.L {
		for _, n := range numbers[len(numbers):cap(numbers)] {
			if n != behind {
				return false
			}
		}
	}
	for _, numbers := range p.L[len(p.L):cap(p.L)] {
		if len(numbers) != 1 || numbers[0] != behind {
			return false
		}
	}
	return true
}

// steps are what can be done to a list.
func steps() []func(params.List) params.List {
	return []func(params.List) params.List{
		params.Next,
		params.Sub,
		func(p params.List) params.List { return params.Digit(p, '4') },
		func(p params.List) params.List { return params.Digit(p, '9') },
		func(p params.List) params.List { return params.Digit(p, 'x') },
		func(p params.List) params.List { return params.Digit(p, ';') },
	}
}

func TestWhatIsHandedIn(t *testing.T) {
	lists := sane()
	for _, y := range faults() {
		lists = append(lists, y.p)
	}
	for _, was := range lists {
		p := roomy(was)
		for k, do := range steps() {
			do(p)
			if !untouched(p, was) {
				t.Fatalf("R3: %v: step %d makes it %v", was, k, p)
			}
		}
		params.Sane(p)
		params.Print(p.L)
		params.Get(p.L, 0, 1)
		params.Count(p.L, 0, 1, 2, 3)
		if !untouched(p, was) {
			t.Fatalf("R3: %v: is now %v", was, p)
		}
	}
}

// TestWhatWasAnswered asks R3 of answers: what is made of the same list, or of the answer, later on leaves them as they are.
func TestWhatWasAnswered(t *testing.T) {
	for _, was := range sane() {
		p := roomy(was)
		var told, want []params.List
		answered := func(u params.List) {
			told = append(told, u)
			want = append(want, params.List{L: twin(u.L), Open: u.Open})
		}
		for _, first := range steps() {
			u := first(p)
			answered(u)
			for _, second := range steps() {
				v := second(u)
				answered(v)
				for _, third := range steps() {
					answered(third(v))
				}
			}
		}
		for k, u := range told {
			if !alike(u, want[k]) {
				t.Fatalf("R3: of %v came %v, and that is now %v", was, want[k], u)
			}
		}
	}
}

// TestParametersThatShare asks that a step is done to the last parameter alone, also where another one lies in the same memory.
func TestParametersThatShare(t *testing.T) {
	one := []int{5}
	p := params.List{L: [][]int{one, one}, Open: true}
	if u := params.Digit(p, '7'); !same(u.L, [][]int{{5}, {57}}) || one[0] != 5 {
		t.Errorf("R3: Digit: %v, of %v", u, one)
	}
	many := []int{1, 2, 3, 4}
	p = params.List{L: [][]int{many[:2], many[2:], many[:1]}, Open: true}
	if u := params.Digit(params.Sub(p), '9'); !same(u.L, [][]int{{1, 2}, {3, 4}, {1, 9}}) || !same(p.L, [][]int{{1, 2}, {3, 4}, {1}}) {
		t.Errorf("R3: Sub: %v, of %v", u, p)
	}
}

func TestParseTellsNewMemory(t *testing.T) {
	const s = "1;2:3;;4"
	a, _ := params.Parse(s)
	b, _ := params.Parse(s)
	for _, numbers := range a {
		for k := range numbers {
			numbers[k] = behind
		}
		fill(numbers)
	}
	if want := parsed(s); !same(b, want) {
		t.Errorf("R3: %v, not %v", b, want)
	}
	c, _ := params.Parse(s)
	for k, numbers := range c {
		fill(numbers)
		if want := parsed(s)[k]; !same([][]int{numbers}, [][]int{want}) {
			t.Errorf("R3: the parameters of one text share memory: %v, not %v", numbers, want)
		}
	}
}
