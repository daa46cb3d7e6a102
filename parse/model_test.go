package parse_test

import (
	"math"
	"slices"
	"strings"

	"lapwing/api"
	"lapwing/params"
	"lapwing/parse"
)

// rule is one of P6.2 and P6.3: in which states, of which letters, what is done.
type rule struct {
	at     string // the states' numbers
	lo, hi int
	do     deed
}

// deed is what a rule makes of a state and a letter.
type deed func(s parse.State, r int) (parse.State, []api.Action)

const (
	every = "0123456789"
	texts = "789"
)

// rules are those of P6.2 and P6.3, of which the first that fits holds.
var rules = []rule{
	{every, 0x18, 0x18, told(exec)},
	{every, 0x1A, 0x1A, told(exec)},
	{every, 0x1B, 0x1B, ends(begins(parse.Escape, 0))},
	{every, 0x9C, 0x9C, ends(begins(parse.Ground, 0))},
	{every, 0x90, 0x90, ends(begins(parse.Dcs, 0))},
	{every, 0x9B, 0x9B, ends(begins(parse.CsiEntry, 0))},
	{every, 0x9D, 0x9D, ends(begins(parse.Osc, 0))},
	{every, 0x98, 0x98, ends(begins(parse.Sos, 'X'))},
	{every, 0x9E, 0x9E, ends(begins(parse.Sos, '^'))},
	{every, 0x9F, 0x9F, ends(begins(parse.Sos, '_'))},
	{every, 0x80, 0x9F, ends(told(exec))},
	{"7", 0x07, 0x07, ends(begins(parse.Ground, 0))},
	{texts, 0x00, 0x1F, stays},
	{texts, 0x7F, 0x7F, stays},
	{texts, math.MinInt, math.MaxInt, adds},
	{every, 0x00, 0x1F, goesOn},
	{every, 0x7F, 0x7F, stays},
	{every, 0xA0, math.MaxInt, told(letter)},
	{every, math.MinInt, -1, told(letter)},
	{"0", 0x20, 0x7E, told(letter)},
	{"12", 0x20, 0x2F, collects(parse.EscInter)},
	{"1", '[', '[', begins(parse.CsiEntry, 0)},
	{"1", ']', ']', begins(parse.Osc, 0)},
	{"1", 'P', 'P', begins(parse.Dcs, 0)},
	{"1", 'X', 'X', begins(parse.Sos, 'X')},
	{"1", '^', '^', begins(parse.Sos, '^')},
	{"1", '_', '_', begins(parse.Sos, '_')},
	{"12", 0x20, 0x7E, unlessOver(esc)},
	{"34", '0', '9', takes(params.Digit)},
	{"34", ';', ';', takes(func(p params.List, _ byte) params.List { return params.Next(p) })},
	{"34", ':', ':', takes(func(p params.List, _ byte) params.List { return params.Sub(p) })},
	{"3", '<', '?', collects(parse.CsiParam)},
	{"4", '<', '?', ignores},
	{"34", 0x20, 0x2F, collects(parse.CsiInter)},
	{"34", 0x40, 0x7E, unlessOver(csi)},
	{"5", 0x20, 0x2F, collects(parse.CsiInter)},
	{"5", 0x30, 0x3F, ignores},
	{"5", 0x40, 0x7E, unlessOver(csi)},
	{"6", 0x40, 0x7E, begins(parse.Ground, 0)},
	{"6", 0x20, 0x3F, stays},
}

// stepped is what the rules say of a state that is Sane.
func stepped(s parse.State, r int) (parse.State, []api.Action) {
	for _, y := range rules {
		if y.lo <= r && r <= y.hi && strings.IndexByte(y.at, byte('0'+s.At)) >= 0 {
			return y.do(s, r)
		}
	}
	panic("no rule fits")
}

// fed is what the rules say of letters, one behind the other.
func fed(s parse.State, l []int) (parse.State, []api.Action) {
	var all []api.Action
	for _, r := range l {
		var more []api.Action
		s, more = stepped(s, r)
		all = append(all, more...)
	}
	return s, all
}

func exec(_ parse.State, r int) api.Action {
	return api.Action{What: parse.Exec, Final: byte(r)}
}

func letter(_ parse.State, r int) api.Action { return api.Action{What: parse.Print, R: r} }

func esc(s parse.State, r int) api.Action {
	return api.Action{What: parse.Esc, Inter: s.Inter, Final: byte(r)}
}

func csi(s parse.State, r int) api.Action {
	return api.Action{What: parse.Csi, Inter: s.Inter, Params: s.Params.L, Final: byte(r)}
}

// told tells an action, and Ground begins.
func told(what func(parse.State, int) api.Action) deed {
	return func(s parse.State, r int) (parse.State, []api.Action) {
		return parse.State{}, []api.Action{what(s, r)}
	}
}

// unlessOver is told, but for nothing that is told if Over.
func unlessOver(what func(parse.State, int) api.Action) deed {
	return func(s parse.State, r int) (parse.State, []api.Action) {
		if s.Over {
			return parse.State{}, nil
		}
		return told(what)(s, r)
	}
}

func begins(at int, kind byte) deed {
	return func(parse.State, int) (parse.State, []api.Action) {
		return parse.State{At: at, Kind: kind}, nil
	}
}

// ends ends a string, if there is one, ahead of what comes next.
func ends(next deed) deed {
	return func(s parse.State, r int) (parse.State, []api.Action) {
		var all []api.Action
		if s.At >= parse.Osc {
			a := api.Action{What: s.At - parse.Osc + parse.OscEnd, Text: s.Text}
			if s.At == parse.Sos {
				a.Final = s.Kind
			}
			all = append(all, a)
		}
		u, more := next(s, r)
		return u, append(all, more...)
	}
}

func stays(s parse.State, _ int) (parse.State, []api.Action) { return s, nil }

func goesOn(s parse.State, r int) (parse.State, []api.Action) { return s, []api.Action{exec(s, r)} }

func ignores(s parse.State, _ int) (parse.State, []api.Action) {
	s.At = parse.CsiIgnore
	return s, nil
}

func collects(at int) deed {
	return func(s parse.State, r int) (parse.State, []api.Action) {
		s.At = at
		if len(s.Inter) >= 2 {
			s.Over = true
			return s, nil
		}
		s.Inter = strings.Join([]string{s.Inter, string(rune(r))}, "")
		return s, nil
	}
}

func takes(f func(params.List, byte) params.List) deed {
	return func(s parse.State, r int) (parse.State, []api.Action) {
		s.At, s.Params = parse.CsiParam, f(s.Params, byte(r))
		return s, nil
	}
}

func adds(s parse.State, r int) (parse.State, []api.Action) {
	piece := "\uFFFD"
	if r >= 0 && r <= 0x10FFFF {
		piece = string(rune(r))
	}
	if more := s.Text + piece; len(more) <= 1024 {
		s.Text = more
	}
	return s, nil
}

// same: are two lists of the same numbers?
func same(a, b [][]int) bool {
	return slices.EqualFunc(a, b, func(x, y []int) bool { return slices.Equal(x, y) })
}

// alike: are two states the same, lists without elements being as good as nil?
func alike(a, b parse.State) bool {
	return a.At == b.At && a.Inter == b.Inter && a.Over == b.Over && a.Text == b.Text && a.Kind == b.Kind &&
		a.Params.Open == b.Params.Open && same(a.Params.L, b.Params.L)
}

// equal: are two lists of the same actions?
func equal(a, b []api.Action) bool {
	return slices.EqualFunc(a, b, func(x, y api.Action) bool {
		return x.What == y.What && x.R == y.R && x.Final == y.Final && x.Inter == y.Inter && x.Text == y.Text && same(x.Params, y.Params)
	})
}
