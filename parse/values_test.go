package parse_test

import (
	"math"
	"strconv"
	"strings"

	"lapwing/params"
	"lapwing/parse"
)

// far are numbers far out of range, of which some are near to others when they wrap round.
var far = []int{
	math.MinInt, math.MinInt + 0x1B, math.MinInt + 'a', math.MinInt32, -1 << 16, -0x10FFFF, -257, -256, -256 + 0x1B, -0x80, -0x7F, -0x65, -0x1B, -7,
	0x1107FF, 1 << 24, math.MaxInt32, 1 << 31, 1 << 32, 1<<32 + 7, 1<<32 + 0x1B, 1<<32 + 'a', 1<<32 + 0x9C, math.MaxInt - 1, math.MaxInt,
}

// letters are all of 0 to 1FF, and some above and below.
func letters() []int {
	all := append([]int{-2, -1, 0x700, 0x7FF, 0x800, 0x20AC, 0xD7FF, 0xD800, 0xDBFF, 0xDC00, 0xDFFF, 0xE000, 0xFFFD, 0xFFFF, 0x10000, 0x10009C, 0x10FFFE, 0x10FFFF, 0x110000, 0x110001}, far...)
	for r := range 0x200 {
		all = append(all, r)
	}
	return all
}

// many is n parameters, the last one of these numbers, those ahead of it each of one of its own.
func many(n int, last ...int) [][]int {
	var l [][]int
	for k := range n - 1 {
		l = append(l, []int{k})
	}
	return append(l, last)
}

// open is parameters that go on.
func open(l [][]int) params.List { return params.List{L: l, Open: true} }

// closed is parameters of which the last one had no room.
func closed(l [][]int) params.List { return params.List{L: l} }

// full are parameters that take something no more: a parameter, a number, a greater number, nothing at all.
func full() []params.List {
	six := []int{1, -1, 65535, 0, 6553, 7}
	return []params.List{
		open(many(16, 5)), closed(many(16, 5)), open(many(16, six...)), closed(many(16, six...)),
		open(many(1, six...)), closed(many(2, six...)), open(many(1, 65535)), open(many(3, 1, 65535)), open(many(16, -1)),
	}
}

// inters are those that may be in a state.
func inters(at int) []string {
	if at == parse.CsiEntry {
		return []string{""}
	}
	return []string{"", " ", "$", "/", "<", "=", ">", "?", "  ", "//", "#$", "< ", "?$", "?/"}
}

// long is a text of n bytes.
func long(n int) string { return strings.Repeat("x", n) }

// states are Sane ones of all kinds, also with what no letters lead to.
func states() []parse.State {
	all := []parse.State{{}, {Params: params.List{L: [][]int{}}}}
	lists := []params.List{{}, open(many(1, -1)), open(many(2, 4, 65535)), closed(many(16, 1, 2, 3, 4, 5, 6))}
	for at := parse.Escape; at <= parse.Sos; at++ {
		for _, inter := range inters(at) {
			for n := range 2 * 3 * 4 {
				for _, p := range lists {
					all = append(all, parse.State{
						At: at, Inter: inter, Over: n%2 == 1, Params: p,
						Text: []string{"", "a\xFF\u20AC", long(1024)}[n/2%3],
						Kind: []byte{0, 'X', '_', 'q'}[n/6],
					})
				}
			}
		}
	}
	return all
}

// fault is a state that may not be, and why.
type fault struct {
	name string
	s    parse.State
}

// faults are states that may not be, each of one fault alone.
func faults() []fault {
	var all []fault
	wrong := func(name string, s parse.State) { all = append(all, fault{name, s}) }
	for _, at := range append([]int{-2, -1, 10, 11, 256, 257}, far...) {
		if at < parse.Ground || at > parse.Sos {
			wrong("At "+strconv.Itoa(at), parse.State{At: at})
			wrong("At "+strconv.Itoa(at)+", with all else", parse.State{At: at, Inter: "?$", Over: true, Params: open(many(2, 3)), Text: "t", Kind: 'X'})
		}
	}
	for _, y := range inGround() {
		wrong("Ground with "+y.name, y.s)
	}
	for at := parse.Escape; at <= parse.Sos; at++ {
		name := "At " + strconv.Itoa(at) + ", "
		for _, y := range badInters(at) {
			wrong(name+"Inter of "+y, parse.State{At: at, Inter: y})
		}
		for _, p := range badLists() {
			wrong(name+"Params", parse.State{At: at, Params: p})
		}
		for _, n := range []int{1025, 1026, 2048, 5000} {
			wrong(name+"Text of "+strconv.Itoa(n), parse.State{At: at, Text: long(n)})
		}
	}
	return all
}

// inGround are states of Ground with one thing that is not nothing.
func inGround() []fault {
	all := []fault{
		{"Over", parse.State{Over: true}},
		{"a parameter", parse.State{Params: open(many(1, -1))}},
		{"a parameter that does not go on", parse.State{Params: closed(many(1, 0))}},
		{"16 parameters", parse.State{Params: open(many(16, 1))}},
		{"Open alone", parse.State{Params: params.List{Open: true}}},
		{"a byte of Text", parse.State{Text: "\x00"}},
		{"a full Text", parse.State{Text: long(1024)}},
		{"too long a Text", parse.State{Text: long(1025)}},
	}
	for _, inter := range inters(parse.Ground)[1:] {
		all = append(all, fault{"Inter " + inter, parse.State{Inter: inter}})
	}
	for kind := 1; kind < 256; kind++ {
		all = append(all, fault{"Kind " + strconv.Itoa(kind), parse.State{Kind: byte(kind)}})
	}
	return all
}

// badInters are those that may not be in a state.
func badInters(at int) []string {
	all := []string{"   ", "###", "?$$", "< ?", " \u20AC", long(3), strings.Repeat(" ", 300), "\u0120", "\u00A0"}
	for c := range 256 {
		b := string([]byte{byte(c)})
		first, later := c >= '<' && c <= '?', c >= 0x20 && c <= 0x2F
		if at == parse.CsiEntry || !first && !later {
			all = append(all, b)
		}
		if !first && !later {
			all = append(all, b+"$")
		}
		if !later {
			all = append(all, "$"+b, "?"+b)
		}
	}
	if at == parse.CsiEntry {
		all = append(all, inters(parse.CsiParam)[1:]...)
	}
	return all
}

// badLists are parameters that may not be.
func badLists() []params.List {
	return []params.List{
		{Open: true}, {L: [][]int{}, Open: true}, open(many(17, 1)), closed(many(17, 1)), open(many(300, 1)),
		open([][]int{{}}), open([][]int{nil}), open([][]int{{1}, {}}), open([][]int{{}, {1}}), closed([][]int{nil}),
		open(many(1, 1, 2, 3, 4, 5, 6, 7)), open(many(1, -2)), open(many(1, 65536)), open(many(2, 1, -2)), closed(many(16, 65536)),
		open([][]int{{-2}, {1}}), closed([][]int{{math.MaxInt}, {1}}), closed([][]int{{1, math.MinInt}}),
	}
}

// runes are a text's letters.
func runes(text string) []int {
	var l []int
	for _, r := range text {
		l = append(l, int(r))
	}
	return l
}
