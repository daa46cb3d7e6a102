package params_test

import (
	"strings"
	"testing"

	"lapwing/api"
	"lapwing/params"
)

// texts are those that are parameters.
func texts() map[string][][]int {
	return map[string][][]int{
		"":                                       nil,
		"0":                                      {{0}},
		"7":                                      {{7}},
		"42":                                     {{42}},
		"007":                                    {{7}},
		"000":                                    {{0}},
		"00065535":                               {{65535}},
		"00000000001":                            {{1}},
		"6553":                                   {{6553}},
		"65534":                                  {{65534}},
		"65535":                                  {{65535}},
		"65536":                                  {{65535}},
		"65539":                                  {{65535}},
		"655350":                                 {{65535}},
		"99999":                                  {{65535}},
		"4294967297":                             {{65535}},
		"18446744073709551617":                   {{65535}},
		";":                                      {{-1}, {-1}},
		":":                                      {{-1, -1}},
		";;":                                     {{-1}, {-1}, {-1}},
		"::":                                     {{-1, -1, -1}},
		";:":                                     {{-1}, {-1, -1}},
		":;":                                     {{-1, -1}, {-1}},
		"1;":                                     {{1}, {-1}},
		";1":                                     {{-1}, {1}},
		"1:":                                     {{1, -1}},
		":1":                                     {{-1, 1}},
		"1;;2":                                   {{1}, {-1}, {2}},
		"0;00;0":                                 {{0}, {0}, {0}},
		"1;38:2::5":                              {{1}, {38, 2, -1, 5}},
		"1:2:3:4:5:6":                            {{1, 2, 3, 4, 5, 6}},
		"1:2:3:4:5:6:":                           {{1, 2, 3, 4, 5, 6}},
		"1:2:3:4:5:6:7":                          {{1, 2, 3, 4, 5, 6}},
		"1:2:3:4:5:6:7:8":                        {{1, 2, 3, 4, 5, 6}},
		"1:2:3:4:5:6:7;8":                        {{1, 2, 3, 4, 5, 6}, {8}},
		"1:2:3:4:5:6:7;8:9":                      {{1, 2, 3, 4, 5, 6}, {8, 9}},
		"::::::::::7;:7":                         {{-1, -1, -1, -1, -1, -1}, {-1, 7}},
		":::::7":                                 {{-1, -1, -1, -1, -1, 7}},
		"::::::7":                                {{-1, -1, -1, -1, -1, -1}},
		"99999:99999;99999":                      {{65535, 65535}, {65535}},
		strings.Repeat("2;", 14) + "3":           long16(15, 2, 3),
		strings.Repeat("2;", 15) + "3":           long16(16, 2, 3),
		strings.Repeat("2;", 15):                 long16(16, 2, -1),
		strings.Repeat("2;", 16):                 long16(16, 2, 2),
		strings.Repeat("2;", 16) + "3":           long16(16, 2, 2),
		strings.Repeat("2;", 15) + "3:4":         long16(16, 2, 3, 4),
		strings.Repeat("2;", 15) + "3:4;5:6":     long16(16, 2, 3, 4),
		strings.Repeat("2;", 15) + "3;:6":        long16(16, 2, 3),
		strings.Repeat("2;", 15) + "1:2:3:4:5:6": long16(16, 2, 1, 2, 3, 4, 5, 6),
		strings.Repeat("2;", 15) + "1:2:3:4:5:6:7;8": long16(16, 2, 1, 2, 3, 4, 5, 6),
		strings.Repeat(";", 15):                      long16(16, -1, -1),
		strings.Repeat(";", 16):                      long16(16, -1, -1),
		strings.Repeat(";", 400) + "7":               long16(16, -1, -1),
	}
}

// long16 is n parameters of one number each, but for the last one.
func long16(n, each int, last ...int) [][]int {
	l := long(n, last...)
	for k := range n - 1 {
		l[k][0] = each
	}
	return l
}

func TestParse(t *testing.T) {
	for s, want := range texts() {
		l, e := params.Parse(s)
		if e != api.OK || !same(l, want) {
			t.Errorf("P5.3: %q: %v, %d", s, l, e)
		}
	}
}

// each hands over s, and all texts that are s and at most n letters more.
func each(s, alphabet string, n int, do func(string)) {
	do(s)
	if n == 0 {
		return
	}
	for _, c := range alphabet {
		each(s+string(c), alphabet, n-1, do)
	}
}

func TestParseOfAllShortTexts(t *testing.T) {
	each("", "0159;:", 6, func(s string) {
		l, e := params.Parse(s)
		if e != api.OK || !same(l, parsed(s)) {
			t.Errorf("P5.3: %q: %v, %d", s, l, e)
		}
	})
}

// scatter are texts of many kinds, some of them long.
func scatter(alphabet string, count, most int, do func(string)) {
	seed := uint64(1)
	roll := func(n int) int {
		seed = seed*6364136223846793005 + 1442695040888963407
		return int(seed>>33) % n
	}
	for range count {
		b := make([]byte, roll(most))
		for k := range b {
			b[k] = alphabet[roll(len(alphabet))]
		}
		do(string(b))
	}
}

func TestParseOfLongTexts(t *testing.T) {
	for _, alphabet := range []string{";:7", ";:::::7", ";;;;;;;:7", "0123456789;:", "1234567890123456789012345678;", "09:"} {
		scatter(alphabet, 4000, 90, func(s string) {
			l, e := params.Parse(s)
			if e != api.OK || !same(l, parsed(s)) {
				t.Fatalf("P5.3: %q: %v, %d", s, l, e)
			}
			if s != "" && !params.Sane(params.List{L: l, Open: true}) {
				t.Fatalf("P5.5: %q is too great: %v", s, l)
			}
			again, e := params.Parse(params.Print(l))
			if e != api.OK || !same(again, l) {
				t.Fatalf("P5.5: %v is printed as %q, which is %v", l, params.Print(l), again)
			}
		})
	}
}

func TestParseOfVeryLongTexts(t *testing.T) {
	const n = 3000000
	for s, want := range map[string][][]int{"9": {{65535}}, "0": {{0}}, ";": long16(16, -1, -1), ":": {{-1, -1, -1, -1, -1, -1}}} {
		if l, e := params.Parse(strings.Repeat(s, n)); e != api.OK || !same(l, want) {
			t.Errorf("P5.3: %q, many times: %v, %d", s, l, e)
		}
	}
	if l, e := params.Parse(strings.Repeat("1;", n) + "x"); e != api.ErrForm || len(l) != 0 {
		t.Errorf("P5.3: a fault at the end: %v, %d", l, e)
	}
}

func TestParseOfOtherBytes(t *testing.T) {
	full := strings.Repeat("1;", 15) + "1:2:3:4:5:6"
	for c := range 256 {
		if strings.IndexByte("0123456789;:", byte(c)) >= 0 {
			continue
		}
		b := string([]byte{byte(c)})
		for _, s := range []string{b, b + "1", "1" + b, "1" + b + "2", ";" + b, b + ";", ":" + b, b + ":", b + b, full + b, full + ":7" + b, full + ";" + b, b + full} {
			if l, e := params.Parse(s); e != api.ErrForm || len(l) != 0 {
				t.Errorf("P5.3: %q: %v, %d", s, l, e)
			}
		}
	}
}

// TestParseIsSteps asks P5.3 of Parse and the three steps: they do the same.
func TestParseIsSteps(t *testing.T) {
	scatter("0123;;;:::", 3000, 80, func(s string) {
		p := params.List{}
		for k := range len(s) {
			switch c := s[k]; c {
			case ';':
				p = params.Next(p)
			case ':':
				p = params.Sub(p)
			default:
				p = params.Digit(p, c)
			}
		}
		if l, e := params.Parse(s); e != api.OK || !same(l, p.L) {
			t.Errorf("P5.3: %q: %v, and by steps %v", s, l, p.L)
		}
	})
}

func TestPrint(t *testing.T) {
	for want, l := range map[string][][]int{
		"":                      nil,
		"0":                     {{0}},
		"1;38:2::5":             {{1}, {38, 2, -1, 5}},
		";":                     {{-1}, {-1}},
		":":                     {{-1, -1}},
		"-2":                    {{-2}},
		"-2:-10;-65536":         {{-2, -10}, {-65536}},
		":-2;":                  {{-1, -2}, {}},
		"-9223372036854775808;": {{-9223372036854775808}, {-1}},
		"9223372036854775807":   {{9223372036854775807}},
		"65536:70000":           {{65536, 70000}},
		";1":                    {{}, {1}},
		"1;;2":                  {{1}, nil, {2}},
		"1;":                    {{1}, {}},
		"1:2:3:4:5:6:7:8":       {{1, 2, 3, 4, 5, 6, 7, 8}},
	} {
		if s := params.Print(l); s != want {
			t.Errorf("P5.3: %v: %q, not %q", l, s, want)
		}
	}
	for _, l := range [][][]int{{}, {{}}, {nil}, {{-1}}} {
		if s := params.Print(l); s != "" {
			t.Errorf("P5.3: %v: %q", l, s)
		}
	}
	for _, y := range faults() {
		if s, want := params.Print(y.p.L), printed(y.p.L); s != want {
			t.Errorf("P5.3: %s: %q, not %q", y.name, s, want)
		}
	}
	if s := params.Print(make([][]int, 100000)); s != strings.Repeat(";", 99999) {
		t.Errorf("P5.3: many parameters of no number: %d bytes", len(s))
	}
}

// TestPrintOfWhatWasParsed asks P5.5.
func TestPrintOfWhatWasParsed(t *testing.T) {
	for _, p := range sane() {
		s := params.Print(p.L)
		if want := printed(p.L); s != want {
			t.Errorf("P5.3: %v: %q, not %q", p.L, s, want)
		}
		l, e := params.Parse(s)
		if alone := same(p.L, [][]int{{-1}}); e != api.OK || same(l, p.L) == alone || alone && len(l) != 0 {
			t.Errorf("P5.5: %v is printed as %q, which is %v, %d", p.L, s, l, e)
		}
	}
	for s, want := range texts() {
		l, _ := params.Parse(s)
		if again, e := params.Parse(params.Print(l)); e != api.OK || !same(again, want) {
			t.Errorf("P5.5: %q: %v, and then %v", s, want, again)
		}
	}
}
