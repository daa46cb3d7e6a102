package utf_test

import (
	"bytes"
	"math/rand"
	"slices"
	"testing"

	"lapwing/utf"
)

// fed are the letters of pieces, one behind the other, and what is left at the end.
func fed(pieces ...[]byte) ([]int, []byte) {
	var s utf.State
	var letters []int
	for _, b := range pieces {
		var l []int
		s, l = utf.Feed(s, b)
		letters = append(letters, l...)
	}
	return letters, s.B
}

// texts are such as have letters of all lengths, beginnings of all lengths, and bytes that are none.
func texts() [][]byte {
	all := [][]byte{
		[]byte("a"), []byte("aé€😀אב\u0301\u0000\U0010FFFF"),
		{0xF0, 0x9F, 0x98, 0xF0, 0x9F, 0x98, 0x80, 0xF0, 0x9F, 0xE2, 0x82, 0xC3, 'A', 0xE2, 0x82},
		{0x80, 0xC3, 0xA9, 0xC0, 0x80, 0xED, 0xA0, 0x80, 0xE0, 0x9F, 0xF4, 0x90, 0xF5, 0xFF, 0xE2, 0x82, 0xAC, 0xBF, 0xF4, 0x8F, 0xBF},
		bytes.Repeat([]byte{0xF1}, 9), bytes.Repeat([]byte{0xE1, 0x80}, 9), bytes.Repeat([]byte{0x80}, 9),
	}
	r := rand.New(rand.NewSource(4))
	for n := range 40 {
		all = append(all, thrown(r, n))
	}
	return all
}

func TestCuts(t *testing.T) {
	for _, b := range texts() {
		want, left := fed(b)
		ask := func(pieces ...[]byte) {
			if l, end := fed(pieces...); !slices.Equal(l, want) || !bytes.Equal(end, left) {
				t.Errorf("P3.4: %x: %x, left %x", pieces, l, end)
			}
		}
		for i := range len(b) + 1 {
			ask(b[:i], b[i:])
			for k := i; k <= len(b); k++ {
				ask(b[:i], b[i:k], b[k:])
			}
		}
		ask(slices.Collect(slices.Chunk(b, 1))...)
		ask(slices.Collect(slices.Chunk(b, 2))...)
	}
}

func TestLettersOverPieces(t *testing.T) {
	for name, y := range map[string]struct {
		pieces [][]byte
		l      []int
		left   []byte
	}{
		"the middle of a letter":    {[][]byte{{'a', 0xE2, 0x82}, {0xAC, 'b'}}, []int{'a', 0x20AC, 'b'}, nil},
		"with nothing between":      {[][]byte{{0xE2}, nil, {0x82}, {}, {0xAC}, nil}, []int{0x20AC}, nil},
		"four pieces":               {[][]byte{{0xF0}, {0x9F}, {0x98}, {0x80}}, []int{0x1F600}, nil},
		"broken off by a letter":    {[][]byte{{0xF0, 0x9F}, {'A'}}, []int{bad, 'A'}, nil},
		"broken off by a beginning": {[][]byte{{0xF0, 0x9F}, {0xE2}, {0x82}}, []int{bad}, []byte{0xE2, 0x82}},
		"broken off by none":        {[][]byte{{0xF0, 0x9F, 0x98}, {0xFF}, {0x80}}, []int{bad, bad, bad}, nil},
		"one that may not go on":    {[][]byte{{0xED}, {0xA0}, {0x80}}, []int{bad, bad, bad}, nil},
		"longer in the second":      {[][]byte{{0xF4}, {0x8F, 0xBF}}, nil, []byte{0xF4, 0x8F, 0xBF}},
	} {
		if l, left := fed(y.pieces...); !slices.Equal(l, y.l) || !bytes.Equal(left, y.left) {
			t.Errorf("P3.4: %s: %x, left %x", name, l, left)
		}
	}
}

// roomy is b with room behind it, in which a call might write.
func roomy(b []byte) []byte { return room(b)[:len(b)] }

// room is b, and what stands in the room behind it.
func room(b []byte) []byte { return slices.Concat(b, bytes.Repeat([]byte{0xEE}, 40)) }

func TestWhatIsHandedInStays(t *testing.T) {
	for _, ahead := range mayBe() {
		for _, behind := range texts() {
			x, y := roomy(ahead), roomy(behind)
			utf.Feed(utf.State{B: x}, y)
			utf.Sane(utf.State{B: x})
			utf.End(utf.State{B: x})
			utf.All(y)
			for _, z := range [][2][]byte{{x, ahead}, {y, behind}} {
				want := room(z[1])
				if is := z[0][:len(want)]; !bytes.Equal(is, want) {
					t.Errorf("R3: %x, and %x behind it: is now %x", ahead, behind, is)
				}
			}
		}
	}
}

// fill writes over a list, and the room behind it.
func fill[E any](l []E, v E) {
	for k := range l[:cap(l)] {
		l[:cap(l)][k] = v
	}
}

func TestAnswersAreNew(t *testing.T) {
	for name, y := range map[string]struct {
		ahead, behind []byte
		l             []int
		left          []byte
	}{
		"nothing behind a beginning": {[]byte{0xE2, 0x82}, nil, nil, []byte{0xE2, 0x82}},
		"a beginning behind nothing": {nil, []byte{0xE2, 0x82}, nil, []byte{0xE2, 0x82}},
		"a beginning behind letters": {[]byte{0xC3}, []byte{0xA9, 'a', 0xF0, 0x9F, 0x98}, []int{0xE9, 'a'}, []byte{0xF0, 0x9F, 0x98}},
		"one that is in both":        {[]byte{0xF0}, []byte{0x9F}, nil, []byte{0xF0, 0x9F}},
	} {
		x, z := roomy(y.ahead), roomy(y.behind)
		s, l := utf.Feed(utf.State{B: x}, z)
		fill(x, 'q')
		fill(z, 'q')
		if !slices.Equal(l, y.l) || !bytes.Equal(s.B, y.left) {
			t.Errorf("%s: what was told shares memory with what was handed in: %x, %x", name, l, s.B)
		}
		x, z = roomy(y.ahead), roomy(y.behind)
		s, l = utf.Feed(utf.State{B: x}, z)
		fill(s.B, 'q')
		fill(l, 'q')
		if !bytes.Equal(x, y.ahead) || !bytes.Equal(z, y.behind) {
			t.Errorf("%s: what was handed in shares memory with what was told: %x, %x", name, x, z)
		}
	}
}

func TestAnswersShareNothing(t *testing.T) {
	s := utf.State{B: []byte{0xE2, 0x82}}
	end, put, none, all := utf.End(s), utf.Put(0x20AC), utf.Put(-1), utf.All(s.B)
	fill(end, 'q')
	fill(put, 'q')
	fill(none, 'q')
	fill(all, 'q')
	if !slices.Equal(utf.End(s), []int{bad}) || string(utf.Put(0x20AC)) != "€" || string(utf.Put(-1)) != "\uFFFD" || !slices.Equal(utf.All(s.B), []int{bad}) {
		t.Error("what is told shares memory with what was told ahead of it")
	}
	u, l := utf.Feed(s, []byte{0xAC, 0xE2, 0x82})
	fill(u.B, 'q')
	if v, m := utf.Feed(s, []byte{0xAC, 0xE2, 0x82}); !slices.Equal(l, m) || !bytes.Equal(v.B, []byte{0xE2, 0x82}) || !bytes.Equal(s.B, v.B) {
		t.Error("a State shares memory with another one")
	}
}
