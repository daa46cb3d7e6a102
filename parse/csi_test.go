package parse_test

import (
	"testing"

	"lapwing/api"
	"lapwing/params"
	"lapwing/parse"
)

// TestPrivate asks P6.3 of '<', '=', '>' and '?', which are collected ahead of all parameters alone.
func TestPrivate(t *testing.T) {
	for _, r := range []int{'<', '=', '>', '?'} {
		c := string(rune(r))
		for _, y := range []struct{ s, want parse.State }{
			{parse.State{At: parse.CsiEntry}, parse.State{At: parse.CsiParam, Inter: c}},
			{parse.State{At: parse.CsiParam}, parse.State{At: parse.CsiIgnore}},
			{parse.State{At: parse.CsiParam, Inter: "?"}, parse.State{At: parse.CsiIgnore, Inter: "?"}},
			{parse.State{At: parse.CsiInter, Inter: "$"}, parse.State{At: parse.CsiIgnore, Inter: "$"}},
			{parse.State{At: parse.CsiIgnore}, parse.State{At: parse.CsiIgnore}},
		} {
			if u, a := parse.Step(y.s, r); !alike(u, y.want) || len(a) != 0 {
				t.Errorf("P6.3: %+v: %c: %+v, %v", y.s, r, u, a)
			}
		}
		for _, y := range []struct {
			text string
			at   int
			want []api.Action
		}{
			{c + "m", parse.Ground, []api.Action{{What: parse.Csi, Inter: c, Final: 'm'}}},
			{c + "4m", parse.Ground, []api.Action{{What: parse.Csi, Inter: c, Params: [][]int{{4}}, Final: 'm'}}},
			{c + "$p", parse.Ground, []api.Action{{What: parse.Csi, Inter: c + "$", Final: 'p'}}},
			{c + c, parse.CsiIgnore, nil}, {"4" + c, parse.CsiIgnore, nil}, {";" + c, parse.CsiIgnore, nil}, {" " + c, parse.CsiIgnore, nil},
			{c + "4" + c + "5 h", parse.Ground, nil},
		} {
			if u, a := parse.Feed(parse.State{At: parse.CsiEntry}, runes(y.text)); u.At != y.at || !equal(a, y.want) {
				t.Errorf("P6.3: CSI %s: %+v, %v", y.text, u, a)
			}
		}
		if u, a := parse.Step(parse.State{At: parse.Escape}, r); !alike(u, parse.State{}) || !equal(a, []api.Action{{What: parse.Esc, Final: byte(r)}}) {
			t.Errorf("P6.3: ESC %c: %+v, %v", r, u, a)
		}
	}
}

// TestFullParams asks P6.3 of parameters that have no room: what comes then is lost, and the rest is told.
func TestFullParams(t *testing.T) {
	for _, p := range full() {
		for _, at := range []int{parse.CsiEntry, parse.CsiParam} {
			s := parse.State{At: at, Over: true, Params: p, Text: "t", Kind: 'q'}
			for c, do := range map[byte]func(params.List) params.List{
				';': params.Next,
				':': params.Sub,
				'0': func(p params.List) params.List { return params.Digit(p, '0') },
				'9': func(p params.List) params.List { return params.Digit(p, '9') },
			} {
				want := s
				want.At, want.Params = parse.CsiParam, do(p)
				u, a := parse.Step(s, int(c))
				if !alike(u, want) || len(a) != 0 {
					t.Errorf("P6.3: at %d: %v: %q: %+v, %v", at, p, c, u, a)
				}
				u.Over = false
				if _, a := parse.Step(u, 'm'); !equal(a, []api.Action{{What: parse.Csi, Params: want.Params.L, Final: 'm'}}) {
					t.Errorf("P6.3: at %d: %v: %q: %v", at, p, c, a)
				}
			}
		}
	}
}

// TestNumbers asks what is told of control sequences with numbers, up to those that are too many and too great.
func TestNumbers(t *testing.T) {
	sixteen := many(16, 15)
	for text, want := range map[string][][]int{
		"":                                       nil,
		"0":                                      {{0}},
		"1;31":                                   {{1}, {31}},
		";":                                      {{-1}, {-1}},
		":":                                      {{-1, -1}},
		"38:2::255":                              {{38, 2, -1, 255}},
		"65535;65536":                            {{65535}, {65535}},
		"999999999":                              {{65535}},
		"007":                                    {{7}},
		"1:2:3:4:5:6":                            {{1, 2, 3, 4, 5, 6}},
		"1:2:3:4:5:6:7":                          {{1, 2, 3, 4, 5, 6}},
		"1:2:3:4:5:6:7;8":                        {{1, 2, 3, 4, 5, 6}, {8}},
		"0;1;2;3;4;5;6;7;8;9;10;11;12;13;14;15":  sixteen,
		"0;1;2;3;4;5;6;7;8;9;10;11;12;13;14;15;": sixteen,
		"0;1;2;3;4;5;6;7;8;9;10;11;12;13;14;15;16":       sixteen,
		"0;1;2;3;4;5;6;7;8;9;10;11;12;13;14;15;16;17:18": sixteen,
	} {
		for c := 0x40; c < 0x7F; c++ {
			for _, lead := range []string{"\x1b[", "\u009b"} {
				u, a := parse.Feed(parse.State{}, append(runes(lead+text), c))
				if !alike(u, parse.State{}) || !equal(a, []api.Action{{What: parse.Csi, Params: want, Final: byte(c)}}) {
					t.Errorf("P6.3: %q %c: %+v, %v", lead+text, c, u, a)
				}
			}
		}
	}
}

// TestIgnored asks P6.3 of sequences that may not be: nothing is told up to the final byte, but for controls.
func TestIgnored(t *testing.T) {
	x := []api.Action{{What: parse.Print, R: 'x'}}
	bell := []api.Action{{What: parse.Exec, Final: 7}}
	for text, want := range map[string][]api.Action{
		"1?hx": x, "1?25;1hx": x, " 1hx": x, " ;hx": x, "$:hx": x, "$?hx": x, "?$0 /p@x": append([]api.Action{{What: parse.Print, R: '@'}}, x...),
		"1<\x07hx": append(bell, x...), "1<\x7Fhx": x, "1<0123456789:;<=>? !/~x": x,
		"1<x": nil, "1<": nil, " 0": nil, "1<\x18x": append([]api.Action{{What: parse.Exec, Final: 0x18}}, x...),
		"1<\u009b2m": {{What: parse.Csi, Params: [][]int{{2}}, Final: 'm'}},
		"1<\x1b[2m":  {{What: parse.Csi, Params: [][]int{{2}}, Final: 'm'}},
		"1<\u00A0x":  append([]api.Action{{What: parse.Print, R: 0xA0}}, x...),
		"1<\u0085x":  append([]api.Action{{What: parse.Exec, Final: 0x85}}, x...),
	} {
		if _, a := parse.Feed(parse.State{At: parse.CsiEntry}, runes(text)); !equal(a, want) {
			t.Errorf("P6.3: CSI %q: %v", text, a)
		}
	}
}
