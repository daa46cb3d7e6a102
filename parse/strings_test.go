package parse_test

import (
	"strings"
	"testing"

	"lapwing/api"
	"lapwing/parse"
)

// ended is what is told of a string that is ended.
func ended(at int, text string, kind byte) []api.Action {
	switch at {
	case parse.Osc:
		return []api.Action{{What: parse.OscEnd, Text: text}}
	case parse.Dcs:
		return []api.Action{{What: parse.DcsEnd, Text: text}}
	}
	return []api.Action{{What: parse.SosEnd, Text: text, Final: kind}}
}

// TestWhatEndsAString asks P6.2 of each letter below A0 in each kind of strings, with Texts of none, few and all bytes.
func TestWhatEndsAString(t *testing.T) {
	begun := map[int]parse.State{
		0x1B: {At: parse.Escape}, 0x90: {At: parse.Dcs}, 0x98: {At: parse.Sos, Kind: 'X'}, 0x9B: {At: parse.CsiEntry},
		0x9D: {At: parse.Osc}, 0x9E: {At: parse.Sos, Kind: '^'}, 0x9F: {At: parse.Sos, Kind: '_'},
	}
	for at := parse.Osc; at <= parse.Sos; at++ {
		for _, text := range []string{"", "0;t\u00E4", "\xFF\x00", long(1023), long(1024)} {
			for _, kind := range []byte{0, 'X', '^', '_', 'q', 0xFF} {
				s := parse.State{At: at, Text: text, Kind: kind, Inter: "?$", Over: true, Params: open(many(2, 3))}
				for r := range 0xA0 {
					want, told := s, []api.Action(nil)
					switch {
					case r == 0x18 || r == 0x1A:
						want, told = parse.State{}, []api.Action{{What: parse.Exec, Final: byte(r)}}
					case r == 0x1B || r >= 0x80:
						want, told = begun[r], ended(at, text, kind)
						if want.At == parse.Ground && r != 0x9C {
							told = append(told, api.Action{What: parse.Exec, Final: byte(r)})
						}
					case r == 7 && at == parse.Osc:
						want, told = parse.State{}, ended(at, text, kind)
					case r >= 0x20 && r != 0x7F && len(text) < 1024:
						want.Text += string(rune(r))
					}
					if u, a := parse.Step(s, r); !alike(u, want) || !equal(a, told) {
						t.Fatalf("P6.2: at %d, Kind %q, a Text of %d: %x: %+v, %v", at, kind, len(text), r, u, a)
					}
				}
			}
		}
	}
}

// TestRoomOfText asks of letters of one to four bytes behind a Text that is nearly full.
func TestRoomOfText(t *testing.T) {
	for at := parse.Osc; at <= parse.Sos; at++ {
		for n := 1018; n <= 1024; n++ {
			s := parse.State{At: at, Text: long(n), Kind: 'X'}
			for r, piece := range map[int]string{
				' ': " ", '~': "~", 0xA0: "\xC2\xA0", 0x7FF: "\xDF\xBF", 0x800: "\xE0\xA0\x80", 0x20AC: "\xE2\x82\xAC", 0xFFFF: "\xEF\xBF\xBF",
				0x10000: "\xF0\x90\x80\x80", 0x1F600: "\xF0\x9F\x98\x80", 0x10FFFF: "\xF4\x8F\xBF\xBF",
				0xD800: "\xEF\xBF\xBD", 0xDFFF: "\xEF\xBF\xBD", 0xFFFD: "\xEF\xBF\xBD", 0x110000: "\xEF\xBF\xBD", -1: "\xEF\xBF\xBD", -0x65: "\xEF\xBF\xBD", 1<<32 + 'a': "\xEF\xBF\xBD",
			} {
				want := s
				if n+len(piece) <= 1024 {
					want.Text += piece
				}
				if u, a := parse.Step(s, r); !alike(u, want) || len(a) != 0 {
					t.Errorf("P6.2: at %d, a Text of %d: %x: a Text of %d, %v", at, n, r, len(u.Text), a)
				}
			}
		}
	}
}

// TestShorterBehindLonger asks that a letter that has no room does not keep a shorter one out.
func TestShorterBehindLonger(t *testing.T) {
	for at := parse.Osc; at <= parse.Sos; at++ {
		for n, want := range map[int]string{
			1019: "\U0001F600a", 1020: "\U0001F600", 1021: "\u20AC", 1022: "\u00E9", 1023: "a", 1024: "",
		} {
			s := parse.State{At: at, Text: long(n)}
			u, a := parse.Feed(s, []int{0x1F600, 0x20AC, 0xE9, 'a', 0x1F600, 'b'})
			if u.Text != long(n)+want || u.At != at || len(a) != 0 {
				t.Errorf("P6.2: at %d, behind %d: %q, %v", at, n, u.Text[n:], a)
			}
			if _, a := parse.Step(u, 0x9C); !equal(a, ended(at, long(n)+want, 0)) {
				t.Errorf("P6.2: at %d, behind %d: %v", at, n, a)
			}
		}
	}
}

// TestStrings asks what is told of whole strings.
func TestStrings(t *testing.T) {
	osc := func(text string) api.Action { return api.Action{What: parse.OscEnd, Text: text} }
	dcs := func(text string) api.Action { return api.Action{What: parse.DcsEnd, Text: text} }
	sos := func(kind byte, text string) api.Action {
		return api.Action{What: parse.SosEnd, Text: text, Final: kind}
	}
	x := api.Action{What: parse.Print, R: 'x'}
	back := api.Action{What: parse.Esc, Final: '\\'}
	for text, want := range map[string][]api.Action{
		"\x1b]2;t\x07x":         {osc("2;t"), x},
		"\x1b]2;t\x1b\\x":       {osc("2;t"), back, x},
		"\u009d2;t\u009cx":      {osc("2;t"), x},
		"\x1b]\x07":             {osc("")},
		"\x1b]a\nb\tc\x7Fd\x07": {osc("abcd")},
		"\x1b]a\x18x":           {{What: parse.Exec, Final: 0x18}, x},
		"\x1b]a\x1ax":           {{What: parse.Exec, Final: 0x1A}, x},
		"\x1b]a\x1b]b\x07":      {osc("a"), osc("b")},
		"\x1b]a\x1bPb\u009c":    {osc("a"), dcs("b")},
		"\x1bPa\x07b\x1b\\":     {dcs("ab"), back},
		"\u0090\u0085x":         {dcs(""), {What: parse.Exec, Final: 0x85}, x},
		"\x1bXa\x07b\u009c":     {sos('X', "ab")},
		"\x1b^a\u009c":          {sos('^', "a")},
		"\x1b_a\u009c":          {sos('_', "a")},
		"\u0098a\u009eb\u009fc": {sos('X', "a"), sos('^', "b")},
		"\u009fa\u009b4m":       {sos('_', "a"), {What: parse.Csi, Params: [][]int{{4}}, Final: 'm'}},
		"\x1b]a\x1b[?4h":        {osc("a"), {What: parse.Csi, Inter: "?", Params: [][]int{{4}}, Final: 'h'}},
		"\x1b]a":                nil,
		"\u009cx":               {x},
		"\x1b]" + strings.Repeat("\u20AC", 342) + "\x07": {osc(strings.Repeat("\u20AC", 341))},
		"\x1b]" + long(1100) + "\x07x":                   {osc(long(1024)), x},
	} {
		if _, a := parse.Feed(parse.State{}, runes(text)); !equal(a, want) {
			t.Errorf("P6.2: %q: %v", text, a)
		}
	}
}
