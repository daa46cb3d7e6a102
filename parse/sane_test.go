package parse_test

import (
	"testing"

	"lapwing/params"
	"lapwing/parse"
)

func TestSane(t *testing.T) {
	for _, s := range states() {
		if !parse.Sane(s) {
			t.Errorf("P6.1: %+v is not Sane", s)
		}
	}
	for _, y := range faults() {
		if parse.Sane(y.s) {
			t.Errorf("P6.1: %s: Sane", y.name)
		}
	}
}

// TestSaneAtItsLimits asks P6.1 of each thing that has a limit, at that limit.
func TestSaneAtItsLimits(t *testing.T) {
	for at := parse.Escape; at <= parse.Sos; at++ {
		for first := range 256 {
			for later := range 256 {
				want := at != parse.CsiEntry && (first >= 0x20 && first <= 0x2F || first >= 0x3C && first <= 0x3F) && later >= 0x20 && later <= 0x2F
				if s := (parse.State{At: at, Inter: string([]byte{byte(first), byte(later)})}); parse.Sane(s) != want {
					t.Fatalf("P6.1: %+v: Sane is %v", s, !want)
				}
			}
		}
		for kind := range 256 {
			if s := (parse.State{At: at, Over: kind%2 == 1, Kind: byte(kind)}); !parse.Sane(s) {
				t.Errorf("P6.1: %+v is not Sane", s)
			}
		}
		for _, p := range full() {
			if s := (parse.State{At: at, Params: p}); !parse.Sane(s) {
				t.Errorf("P6.1: %+v is not Sane", s)
			}
		}
		for _, n := range []int{0, 1, 1023, 1024} {
			if s := (parse.State{At: at, Text: long(n)}); !parse.Sane(s) {
				t.Errorf("P6.1: at %d: a Text of %d is not Sane", at, n)
			}
		}
	}
	for _, s := range []parse.State{{}, {Params: params.List{L: [][]int{}}}, {Params: params.List{L: many(3, 1)[:0]}}} {
		if !parse.Sane(s) {
			t.Errorf("P6.1: Ground with nothing else is not Sane")
		}
	}
}

func TestWhatIsNotSane(t *testing.T) {
	few := []int{-1, 0, 7, 0x18, 0x1A, 0x1B, ' ', '0', ';', '?', '[', 'm', 0x7F, 0x85, 0x90, 0x98, 0x9B, 0x9C, 0x9D, 0xA0, 0x20AC, 0x110000}
	lists := [][]int{nil, {}, {'a'}, {0x9C}, {0x18}, {'a', 'b'}, {0x1B, '[', '1', 'm'}, few, letters()}
	for _, y := range faults() {
		for _, r := range few {
			if u, a := parse.Step(y.s, r); !alike(u, parse.State{}) || len(a) != 0 {
				t.Fatalf("P6.1: %s: Step of %x: %+v, %v", y.name, r, u, a)
			}
		}
		for _, l := range lists {
			if u, a := parse.Feed(y.s, l); !alike(u, parse.State{}) || len(a) != 0 {
				t.Fatalf("P6.1: %s: Feed of %x: %+v, %v", y.name, l, u, a)
			}
		}
	}
}

func TestEachLetterOfWhatIsNotSane(t *testing.T) {
	for at := -1; at <= 10; at++ {
		s := parse.State{At: at, Inter: "???"}
		for _, r := range letters() {
			u, a := parse.Step(s, r)
			v, b := parse.Feed(s, []int{r})
			if !alike(u, parse.State{}) || !alike(v, parse.State{}) || len(a) != 0 || len(b) != 0 {
				t.Fatalf("P6.1: at %d: %x: %+v, %v by Step, %+v, %v by Feed", at, r, u, a, v, b)
			}
		}
	}
}
