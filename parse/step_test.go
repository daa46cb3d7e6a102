package parse_test

import (
	"testing"

	"lapwing/api"
	"lapwing/params"
	"lapwing/parse"
)

// TestEveryStep asks P6.2 and P6.3 of every letter in states of all kinds.
func TestEveryStep(t *testing.T) {
	all := letters()
	for _, s := range states() {
		for _, r := range all {
			want, told := stepped(s, r)
			u, a := parse.Step(s, r)
			if !alike(u, want) || !equal(a, told) {
				t.Fatalf("P6.2, P6.3: %+v: %x: %+v, %v, not %+v, %v", s, r, u, a, want, told)
			}
			if !parse.Sane(u) {
				t.Fatalf("P6.5: %+v: %x makes %+v, which is not Sane", s, r, u)
			}
		}
	}
}

// TestControls asks P6.2 of what a control does in each state, said in words of its own.
func TestControls(t *testing.T) {
	for at := parse.Ground; at <= parse.Sos; at++ {
		s := parse.State{At: at}
		for _, y := range []struct {
			r, at int
			kind  byte
			exec  bool
		}{
			{0x18, parse.Ground, 0, true}, {0x1A, parse.Ground, 0, true}, {0x1B, parse.Escape, 0, false},
			{0x90, parse.Dcs, 0, false}, {0x98, parse.Sos, 'X', false}, {0x9B, parse.CsiEntry, 0, false}, {0x9C, parse.Ground, 0, false},
			{0x9D, parse.Osc, 0, false}, {0x9E, parse.Sos, '^', false}, {0x9F, parse.Sos, '_', false},
			{0x80, parse.Ground, 0, true}, {0x84, parse.Ground, 0, true}, {0x8F, parse.Ground, 0, true}, {0x91, parse.Ground, 0, true},
			{0x97, parse.Ground, 0, true}, {0x99, parse.Ground, 0, true}, {0x9A, parse.Ground, 0, true},
		} {
			var want []api.Action
			// A string that is left by 18 or 1A is not ended.
			if at >= parse.Osc && y.r >= 0x1B {
				want = append(want, api.Action{What: []int{parse.OscEnd, parse.DcsEnd, parse.SosEnd}[at-parse.Osc]})
			}
			if y.exec {
				want = append(want, api.Action{What: parse.Exec, Final: byte(y.r)})
			}
			u, a := parse.Step(s, y.r)
			if !alike(u, parse.State{At: y.at, Kind: y.kind}) || !equal(a, want) {
				t.Errorf("P6.2: at %d: %x: %+v, %v, not %v", at, y.r, u, a, want)
			}
		}
	}
}

// TestLettersOutOfRange asks P6.2 of what is no letter: it is told as it is, outside of strings.
func TestLettersOutOfRange(t *testing.T) {
	for at := parse.Ground; at < parse.Osc; at++ {
		s := parse.State{At: at}
		for _, r := range append([]int{-1, 0xA0, 0xFF, 0x100, 0xD800, 0xFFFD, 0x10FFFF, 0x110000}, far...) {
			u, a := parse.Step(s, r)
			if !alike(u, parse.State{}) || !equal(a, []api.Action{{What: parse.Print, R: r}}) {
				t.Errorf("P6.2: at %d: %x: %+v, %v", at, r, u, a)
			}
		}
	}
}

// TestWhatStays asks P6.3 of all that stays where one of four states begins.
func TestWhatStays(t *testing.T) {
	p := open(many(2, 7, 8))
	of := func(at int, inter string) parse.State {
		return parse.State{At: at, Inter: inter, Over: true, Params: p, Text: "t", Kind: 'q'}
	}
	to := func(at int, inter string, p params.List) parse.State {
		s := of(at, inter)
		s.Params = p
		return s
	}
	for _, y := range []struct {
		s    parse.State
		r    int
		want parse.State
	}{
		{of(parse.Escape, "?"), '(', to(parse.EscInter, "?(", p)},
		{of(parse.Escape, "?("), '/', to(parse.EscInter, "?(", p)},
		{of(parse.EscInter, ""), ' ', to(parse.EscInter, " ", p)},
		{of(parse.CsiEntry, ""), '9', to(parse.CsiParam, "", params.Digit(p, '9'))},
		{of(parse.CsiEntry, ""), '?', to(parse.CsiParam, "?", p)},
		{of(parse.CsiEntry, ""), '$', to(parse.CsiInter, "$", p)},
		{of(parse.CsiParam, "?"), ':', to(parse.CsiParam, "?", params.Sub(p))},
		{of(parse.CsiParam, "?"), ';', to(parse.CsiParam, "?", params.Next(p))},
		{of(parse.CsiParam, "?"), '?', to(parse.CsiIgnore, "?", p)},
		{of(parse.CsiParam, "?"), '$', to(parse.CsiInter, "?$", p)},
		{of(parse.CsiInter, "?$"), '$', to(parse.CsiInter, "?$", p)},
		{of(parse.CsiInter, "?$"), '0', to(parse.CsiIgnore, "?$", p)},
		{of(parse.CsiIgnore, "?$"), '0', to(parse.CsiIgnore, "?$", p)},
	} {
		if u, a := parse.Step(y.s, y.r); !alike(u, y.want) || len(a) != 0 {
			t.Errorf("P6.3: %+v: %c: %+v, %v", y.s, y.r, u, a)
		}
	}
}

// TestWhatBegins asks P6.3 that all else is nothing where a state begins behind ESC, whatever stood there.
func TestWhatBegins(t *testing.T) {
	for _, inter := range []string{"", "(", "?", "#", "($"} {
		for _, over := range []bool{false, true} {
			s := parse.State{At: parse.Escape, Inter: inter, Over: over, Params: open(many(3, 1)), Text: "t", Kind: 'q'}
			for _, y := range []struct {
				r    int
				want parse.State
			}{
				{'[', parse.State{At: parse.CsiEntry}}, {']', parse.State{At: parse.Osc}}, {'P', parse.State{At: parse.Dcs}},
				{'X', parse.State{At: parse.Sos, Kind: 'X'}}, {'^', parse.State{At: parse.Sos, Kind: '^'}}, {'_', parse.State{At: parse.Sos, Kind: '_'}},
			} {
				if u, a := parse.Step(s, y.r); !alike(u, y.want) || len(a) != 0 {
					t.Errorf("P6.3: %+v: %c: %+v, %v", s, y.r, u, a)
				}
				later := s
				later.At = parse.EscInter
				var want []api.Action
				if !over {
					want = []api.Action{{What: parse.Esc, Inter: inter, Final: byte(y.r)}}
				}
				if u, a := parse.Step(later, y.r); !alike(u, parse.State{}) || !equal(a, want) {
					t.Errorf("P6.3: %+v: %c: %+v, %v", later, y.r, u, a)
				}
			}
		}
	}
}

// TestCollect asks of Inter with no byte, with one and with two what a letter more makes of it, and what is told then.
func TestCollect(t *testing.T) {
	for _, y := range []struct {
		at, r, to int
		final     byte
		what      int
	}{
		{parse.Escape, '#', parse.EscInter, '8', parse.Esc}, {parse.EscInter, '#', parse.EscInter, '8', parse.Esc},
		{parse.CsiEntry, '#', parse.CsiInter, 'm', parse.Csi}, {parse.CsiEntry, '>', parse.CsiParam, 'm', parse.Csi},
		{parse.CsiParam, '#', parse.CsiInter, 'm', parse.Csi}, {parse.CsiInter, '#', parse.CsiInter, 'm', parse.Csi},
	} {
		for _, inter := range []string{"", "?", "$", "?$", "$$"} {
			if y.at == parse.CsiEntry && inter != "" {
				continue
			}
			want := parse.State{At: y.to, Inter: inter + string(rune(y.r))}
			told := []api.Action{{What: y.what, Inter: want.Inter, Final: y.final}}
			if len(inter) == 2 {
				want, told = parse.State{At: y.to, Inter: inter, Over: true}, nil
			}
			u, a := parse.Step(parse.State{At: y.at, Inter: inter}, y.r)
			if !alike(u, want) || len(a) != 0 {
				t.Errorf("P6.3: at %d, Inter %q: %c: %+v, %v", y.at, inter, y.r, u, a)
			}
			u, a = parse.Step(u, int(y.final))
			if !alike(u, parse.State{}) || !equal(a, told) {
				t.Errorf("P6.3: at %d, Inter %q: %c, %c: %+v, %v, not %v", y.at, inter, y.r, y.final, u, a, told)
			}
		}
	}
}

// TestOver asks that what was lost between is remembered up to the final byte, and no longer.
func TestOver(t *testing.T) {
	for _, y := range []struct {
		text string
		want []api.Action
	}{
		{"\x1b(((0", nil}, {"\x1b((((((0", nil}, {"\x1b((\x07(0", []api.Action{{What: parse.Exec, Final: 7}}},
		{"\x1b[   q", nil}, {"\x1b[?  q", nil}, {"\x1b[1;2   \x7Fq", nil},
		{"\x1b(((0a", []api.Action{{What: parse.Print, R: 'a'}}},
		{"\x1b(((\x1b(0", []api.Action{{What: parse.Esc, Inter: "(", Final: '0'}}},
		{"\x1b[   \x1b[m", []api.Action{{What: parse.Csi, Final: 'm'}}},
		{"\x1b(((\u009bm", []api.Action{{What: parse.Csi, Final: 'm'}}},
		{"\x1b(((0\x1b(0", []api.Action{{What: parse.Esc, Inter: "(", Final: '0'}}},
		{"\x1b((0", []api.Action{{What: parse.Esc, Inter: "((", Final: '0'}}},
		{"\x1b[? q", []api.Action{{What: parse.Csi, Inter: "? ", Final: 'q'}}},
	} {
		if u, a := parse.Feed(parse.State{}, runes(y.text)); !alike(u, parse.State{}) || !equal(a, y.want) {
			t.Errorf("P6.3: %q: %+v, %v", y.text, u, a)
		}
	}
}
