package ranges_test

import (
	"slices"
	"testing"

	"lapwing/ranges"
)

// dice is a row of numbers that is the same each time.
type dice uint64

func (d *dice) roll(n int) int {
	*d = *d*6364136223846793005 + 1442695040888963407
	return int(uint64(*d)>>33) % n
}

// thrown makes a table of numbers below span, of V 1 to 3, with and without gaps.
func thrown(d *dice, span int) ranges.Table {
	var l []ranges.Row
	for at := d.roll(4); at < span; {
		hi := at + d.roll(5)
		if hi >= span {
			break
		}
		l = append(l, ranges.Row{Lo: at, Hi: hi, V: 1 + d.roll(3)})
		at = hi + 1 + d.roll(3)
	}
	t, _ := ranges.Make(l)
	return t
}

func TestOver(t *testing.T) {
	all := rows(0, 0x10FFFF, 9)
	for name, y := range map[string]struct{ a, b, want []ranges.Row }{
		"nothing over nothing":  {nil, nil, nil},
		"nothing over a":        {rows(3, 5, 1), nil, rows(3, 5, 1)},
		"b over nothing":        {nil, rows(3, 5, 1), rows(3, 5, 1)},
		"the same":              {rows(3, 5, 1), rows(3, 5, 2), rows(3, 5, 2)},
		"all over a":            {rows(0, 3, 1, 5, 0x10FFFF, 2), all, all},
		"a is behind all of b":  {all, rows(0, 0, 1, 0x10FFFF, 0x10FFFF, 1), rows(0, 0, 1, 1, 0x10FFFE, 9, 0x10FFFF, 0x10FFFF, 1)},
		"in the middle":         {rows(0, 9, 1), rows(4, 5, 2), rows(0, 3, 1, 4, 5, 2, 6, 9, 1)},
		"in the middle, one V":  {rows(0, 9, 1), rows(4, 5, 1), rows(0, 9, 1)},
		"at the beginning":      {rows(2, 9, 1), rows(0, 5, 2), rows(0, 5, 2, 6, 9, 1)},
		"at the end":            {rows(2, 9, 1), rows(9, 12, 2), rows(2, 8, 1, 9, 12, 2)},
		"next to it, one V":     {rows(2, 9, 1), rows(10, 12, 1), rows(2, 12, 1)},
		"next to it, another V": {rows(2, 9, 1), rows(10, 12, 2), rows(2, 9, 1, 10, 12, 2)},
		"ahead, one V":          {rows(2, 9, 1), rows(0, 1, 1), rows(0, 9, 1)},
		"a bridge":              {rows(0, 3, 1, 6, 9, 1), rows(4, 5, 1), rows(0, 9, 1)},
		"two without a gap":     {rows(0, 20, 1), rows(5, 7, 2, 8, 9, 3), rows(0, 4, 1, 5, 7, 2, 8, 9, 3, 10, 20, 1)},
		"over many":             {rows(0, 1, 1, 3, 4, 2, 6, 7, 3, 9, 12, 1), rows(1, 9, 4), rows(0, 0, 1, 1, 9, 4, 10, 12, 1)},
		"in a gap":              {rows(0, 1, 1, 9, 12, 1), rows(4, 5, 1), rows(0, 1, 1, 4, 5, 1, 9, 12, 1)},
	} {
		a, b := slices.Clone(y.a), slices.Clone(y.b)
		x := ranges.Over(ranges.Table{L: a}, ranges.Table{L: b})
		if !slices.Equal(x.L, y.want) {
			t.Errorf("P1.3: %s: %v", name, x)
		}
		if !slices.Equal(a, y.a) || !slices.Equal(b, y.b) {
			t.Errorf("R3: %s: what was handed in is changed", name)
		}
	}
}

func TestOverOfWhatIsNotSane(t *testing.T) {
	good := table(5, 7, 2)
	bad := mayNotBe()
	bad["one V without a gap"] = rows(0, 4, 1, 5, 9, 1)
	bad["4097"] = many(most + 1)
	for name, l := range bad {
		x := ranges.Table{L: l}
		for _, y := range []ranges.Table{ranges.Over(good, x), ranges.Over(x, good), ranges.Over(x, x), ranges.Over(ranges.Table{}, x), ranges.Over(x, ranges.Table{})} {
			if len(y.L) != 0 {
				t.Errorf("P1.3: %s: %d rows", name, len(y.L))
			}
		}
	}
}

func TestOverOfManyRows(t *testing.T) {
	full := ranges.Table{L: many(most)}
	for name, y := range map[string]struct {
		a, b ranges.Table
		want int
	}{
		"one more, above":          {full, table(2*most, 2*most, 1), 0},
		"one more, in a gap":       {full, table(1, 1, 2), 0},
		"one more, below":          {table(0x10FFFF, 0x10FFFF, 1), full, 0},
		"one is cut in three":      {ranges.Table{L: append(many(most-3), rows(0x8000, 0x10FFFF, 1)...)}, table(0x9000, 0x9000, 2), most},
		"three are one too many":   {ranges.Table{L: append(many(most-2), rows(0x8000, 0x10FFFF, 1)...)}, table(0x9000, 0x9000, 2), 0},
		"a bridge":                 {full, table(1, 1, 1), most - 1},
		"another V in one's place": {full, table(0, 0, 2), most},
		"longer, of one V":         {full, table(2*most-1, 0x10FFFF, 1), most},
		"as many":                  {ranges.Table{L: many(most - 1)}, table(0x10FFFF, 0x10FFFF, 1), most},
		"all over many":            {full, table(0, 0x10FFFF, 1), 1},
		"as many are cut":          {table(0, 0x10FFFF, 2), ranges.Table{L: many(most / 2)}, most},
		"too many are cut":         {table(0, 0x10FFFF, 2), ranges.Table{L: many(most/2 + 1)}, 0},
	} {
		if !ranges.Sane(y.a) || !ranges.Sane(y.b) {
			t.Errorf("%s: the test's own tables are not Sane", name)
		}
		if x := ranges.Over(y.a, y.b); len(x.L) != y.want || !ranges.Sane(x) {
			t.Errorf("P1.3: %s: %d rows", name, len(x.L))
		}
	}
}

func TestOverTellsNumberByNumber(t *testing.T) {
	var d dice
	for k := 0; k < 3000; k++ {
		a, b := thrown(&d, 5+d.roll(40)), thrown(&d, 5+d.roll(40))
		x := ranges.Over(a, b)
		if !ranges.Sane(x) {
			t.Fatalf("P1.3: %v over %v is not Sane: %v", b, a, x)
		}
		for r := -1; r < 50; r++ {
			want := ranges.Get(b, r)
			if want == 0 {
				want = ranges.Get(a, r)
			}
			if v := ranges.Get(x, r); v != want {
				t.Fatalf("P1.5: %v over %v: of %d: %d, not %d", b, a, r, v, want)
			}
		}
	}
}
