package parse_test

import (
	"testing"

	"lapwing/api"
	"lapwing/parse"
)

// thrower throws letters, the same ones each time.
type thrower uint64

func (y *thrower) roll(n int) int {
	*y = *y*6364136223846793005 + 1442695040888963407
	return int(uint64(*y)>>33) % n
}

// letter is one that something hangs on, or any.
func (y *thrower) letter() int {
	const edges = "\x1b\x1b\x1b[[[]PX^_\\??<>;;;:::0123456789999$$$((  mhqHpA\x00\x07\x07\x08\x18\x1a\x7f\x80\x85\x90\x98\x9b\x9b\x9c\x9d\x9e\x9f\xa0\xe9"
	switch y.roll(9) {
	case 0:
		return y.roll(0x180)
	case 1:
		return []int{-1, 0x7FF, 0x20AC, 0xD800, 0xFFFD, 0x1F600, 0x10FFFF, 0x110000}[y.roll(8)]
	}
	return int(edges[y.roll(len(edges))])
}

// thrown are letters of all kinds.
func thrown(seed, n int) []int {
	y := thrower(seed)
	var l []int
	for range n {
		l = append(l, y.letter())
	}
	return l
}

// some are states of each kind, fewer than all.
func some() []parse.State {
	all := []parse.State{{}}
	for at := parse.Escape; at <= parse.Sos; at++ {
		s := parse.State{At: at, Over: at%2 == 1, Params: open(many(at, 6553)), Text: long(1020), Kind: '^'}
		if at != parse.CsiEntry {
			s.Inter = "?"
		}
		all = append(all, parse.State{At: at}, s)
	}
	return all
}

// oneByOne is Step of each letter.
func oneByOne(s parse.State, l []int) (parse.State, []api.Action) {
	var all []api.Action
	for _, r := range l {
		u, more := parse.Step(s, r)
		s, all = u, append(all, more...)
	}
	return s, all
}

// TestFeed asks P6.4: each letter, one behind the other, wherever they are cut.
func TestFeed(t *testing.T) {
	for k, s := range some() {
		l := thrown(k, 60)
		want, told := oneByOne(s, l)
		if u, a := fed(s, l); !alike(u, want) || !equal(a, told) {
			t.Fatalf("P6.2, P6.3: %+v: %x: %+v, %v, not %+v, %v", s, l, want, told, u, a)
		}
		for n := range len(l) + 1 {
			u, a := parse.Feed(s, l[:n])
			u, b := parse.Feed(u, l[n:])
			if !alike(u, want) || !equal(append(a, b...), told) {
				t.Fatalf("P6.4: %+v: %x, cut at %d: %+v, %v, %v", s, l, n, u, a, b)
			}
		}
	}
}

func TestFeedOfFewLetters(t *testing.T) {
	for _, s := range states() {
		for _, l := range [][]int{nil, {}} {
			if u, a := parse.Feed(s, l); !alike(u, s) || len(a) != 0 {
				t.Fatalf("P6.4: %+v: of no letter: %+v, %v", s, u, a)
			}
		}
	}
	for _, s := range some() {
		for _, r := range letters() {
			want, told := stepped(s, r)
			if u, a := parse.Feed(s, []int{r}); !alike(u, want) || !equal(a, told) {
				t.Fatalf("P6.4: %+v: of %x: %+v, %v", s, r, u, a)
			}
		}
	}
}

// TestFeedOfManyLetters asks P6.4 and P6.5 of a long list: what comes out is the document's, and the state stays one that may be.
func TestFeedOfManyLetters(t *testing.T) {
	for seed := range 40 {
		l := thrown(seed+1000, 5000)
		want, told := fed(parse.State{}, l)
		u, a := parse.Feed(parse.State{}, l)
		if !alike(u, want) || !equal(a, told) {
			t.Fatalf("P6.4: seed %d: %+v, and %d actions, not %+v, and %d", seed, u, len(a), want, len(told))
		}
		s := parse.State{}
		for k, r := range l {
			if s, _ = parse.Step(s, r); !parse.Sane(s) {
				t.Fatalf("P6.5: seed %d: behind letter %d, %x: %+v", seed, k, r, s)
			}
		}
	}
}

// TestBrokenOff asks P6.5: of what is broken off nothing is told.
func TestBrokenOff(t *testing.T) {
	x := api.Action{What: parse.Print, R: 'x'}
	for _, begun := range []string{"\x1b", "\x1b(", "\x1b((", "\x1b[", "\x1b[1", "\x1b[1;2", "\x1b[?25", "\x1b[ ", "\x1b[1<", "\u009b1"} {
		for off, want := range map[string][]api.Action{
			"":           nil,
			"\x18x":      {{What: parse.Exec, Final: 0x18}, x},
			"\x1ax":      {{What: parse.Exec, Final: 0x1A}, x},
			"\u009cx":    {x},
			"\u0085x":    {{What: parse.Exec, Final: 0x85}, x},
			"\u20ACx":    {{What: parse.Print, R: 0x20AC}, x},
			"\x1b7x":     {{What: parse.Esc, Final: '7'}, x},
			"\x1b[2mx":   {{What: parse.Csi, Params: [][]int{{2}}, Final: 'm'}, x},
			"\u009bmx":   {{What: parse.Csi, Final: 'm'}, x},
			"\x1b]\x07x": {{What: parse.OscEnd}, x},
		} {
			if _, a := parse.Feed(parse.State{}, runes(begun+off)); !equal(a, want) {
				t.Errorf("P6.5: %q: %v", begun+off, a)
			}
		}
	}
}

// TestDocument asks the chapter's example, and all kinds of sequences.
func TestDocument(t *testing.T) {
	for text, want := range map[string][]api.Action{
		"\x1b[1;31m":                {{What: parse.Csi, Params: [][]int{{1}, {31}}, Final: 'm'}},
		"a~\u00A0":                  {{What: parse.Print, R: 'a'}, {What: parse.Print, R: '~'}, {What: parse.Print, R: 0xA0}},
		"\r\n\x00\x1f\x7f":          {{What: parse.Exec, Final: 13}, {What: parse.Exec, Final: 10}, {What: parse.Exec}, {What: parse.Exec, Final: 0x1F}},
		"\x1bc\x1b~\x1b0":           {{What: parse.Esc, Final: 'c'}, {What: parse.Esc, Final: '~'}, {What: parse.Esc, Final: '0'}},
		"\x1b#8\x1b (":              {{What: parse.Esc, Inter: "#", Final: '8'}},
		"\x1b([":                    {{What: parse.Esc, Inter: "(", Final: '['}},
		"\x1b\x0a(\x0a0":            {{What: parse.Exec, Final: 10}, {What: parse.Exec, Final: 10}, {What: parse.Esc, Inter: "(", Final: '0'}},
		"\x1b\x7f[\x7f1\x7f;\x7f m": {{What: parse.Csi, Inter: " ", Params: [][]int{{1}, {-1}}, Final: 'm'}},
		"\x1b[?2026$p":              {{What: parse.Csi, Inter: "?$", Params: [][]int{{2026}}, Final: 'p'}},
		"\x1b[!p\x1b[>c":            {{What: parse.Csi, Inter: "!", Final: 'p'}, {What: parse.Csi, Inter: ">", Final: 'c'}},
		"\x1b[1\n;\b2H":             {{What: parse.Exec, Final: 10}, {What: parse.Exec, Final: 8}, {What: parse.Csi, Params: [][]int{{1}, {2}}, Final: 'H'}},
	} {
		if u, a := parse.Feed(parse.State{}, runes(text)); !equal(a, want) || !parse.Sane(u) {
			t.Errorf("%q: %+v, %v", text, u, a)
		}
		if u, a := oneByOne(parse.State{}, runes(text)); !equal(a, want) || !parse.Sane(u) {
			t.Errorf("%q, one by one: %+v, %v", text, u, a)
		}
	}
}
