package ranges_test

import (
	"bytes"
	"slices"
	"testing"

	"lapwing/api"
	"lapwing/ranges"
)

func TestPack(t *testing.T) {
	for name, y := range map[string]struct {
		l    []ranges.Row
		want []byte
	}{
		"nothing":            {nil, nil},
		"0":                  {rows(0, 0, 1), []byte{0, 0, 1}},
		"one byte each":      {rows(127, 254, 127), []byte{127, 127, 127}},
		"two bytes each":     {rows(128, 256, 128), []byte{128, 1, 128, 1, 128, 1}},
		"V 255":              {rows(1, 1, 255), []byte{1, 0, 255, 1}},
		"the last of two":    {rows(16383, 32766, 1), []byte{255, 127, 255, 127, 1}},
		"the first of three": {rows(16384, 32768, 1), []byte{128, 128, 1, 128, 128, 1, 1}},
		"MaxRune":            {rows(0x10FFFF, 0x10FFFF, 1), []byte{255, 255, 67, 0, 1}},
		"all":                {rows(0, 0x10FFFF, 1), []byte{0, 255, 255, 67, 1}},
		"next to each other": {rows(5, 7, 2, 8, 9, 3), []byte{5, 2, 2, 1, 1, 3}},
		"with a gap":         {rows(5, 7, 2, 9, 9, 2, 200, 201, 4), []byte{5, 2, 2, 2, 0, 2, 191, 1, 1, 4}},
	} {
		b, e := ranges.Pack(ranges.Table{L: y.l})
		if e != api.OK || !bytes.Equal(b, y.want) {
			t.Errorf("P1.4: %s: %v, %v", name, b, e)
		}
		if x, e := ranges.Unpack(y.want); e != api.OK || !slices.Equal(x.L, y.l) {
			t.Errorf("P1.4: %s: unpacked %v, %v", name, x, e)
		}
	}
}

func TestPackOfWhatIsNotSane(t *testing.T) {
	bad := mayNotBe()
	bad["one V without a gap"] = rows(0, 4, 1, 5, 9, 1)
	bad["4097"] = many(most + 1)
	for name, l := range bad {
		if b, e := ranges.Pack(ranges.Table{L: l}); e != api.ErrArg || len(b) != 0 {
			t.Errorf("P1.4: %s: %v, %v", name, b, e)
		}
	}
}

func TestUnpackRefuses(t *testing.T) {
	for name, y := range map[string]struct {
		b    []byte
		want api.Errno
	}{
		"one number":                            {[]byte{5}, api.ErrShort},
		"two numbers":                           {[]byte{5, 1}, api.ErrShort},
		"a row, and one number":                 {[]byte{5, 1, 1, 2}, api.ErrShort},
		"a row, and two numbers":                {[]byte{5, 1, 1, 2, 0}, api.ErrShort},
		"a first number without its last byte":  {[]byte{128}, api.ErrShort},
		"a second number without its last byte": {[]byte{5, 129}, api.ErrShort},
		"a third number without its last byte":  {[]byte{5, 1, 128}, api.ErrShort},
		"three bytes that go on":                {[]byte{128, 128, 128}, api.ErrShort},
		"a number of four bytes alone":          {[]byte{128, 128, 128, 1}, api.ErrShort},
		"a row of four bytes that may not be":   {[]byte{128, 128, 128, 1, 0, 1}, api.ErrForm},
		"the greatest numbers":                  {[]byte{255, 255, 255, 127, 255, 255, 255, 127, 255, 255, 255, 127}, api.ErrForm},
		"a second number of four bytes":         {[]byte{0, 128, 128, 128, 1, 1}, api.ErrForm},
		"four bytes that go on, and the end":    {[]byte{128, 128, 128, 128}, api.ErrForm},
		"four bytes that go on":                 {[]byte{128, 128, 128, 128, 1, 1, 1}, api.ErrForm},
		"four bytes that go on, as V":           {[]byte{5, 1, 255, 255, 255, 255}, api.ErrForm},
		"a last byte 0 of two":                  {[]byte{128, 0, 1, 1}, api.ErrForm},
		"a last byte 0 of two, and the end":     {[]byte{133, 0}, api.ErrForm},
		"a last byte 0 of three":                {[]byte{5, 133, 133, 0, 1}, api.ErrForm},
		"a last byte 0 of four":                 {[]byte{5, 1, 129, 128, 128, 0}, api.ErrForm},
		"V 0":                                   {[]byte{5, 1, 0}, api.ErrForm},
		"V 256":                                 {[]byte{5, 1, 128, 2}, api.ErrForm},
		"above MaxRune":                         {[]byte{128, 128, 68, 0, 1}, api.ErrForm},
		"Hi above MaxRune":                      {[]byte{1, 255, 255, 67, 1}, api.ErrForm},
		"a second row above MaxRune":            {[]byte{0, 255, 255, 67, 1, 1, 0, 2}, api.ErrForm},
		"a second row that does not rise":       {[]byte{5, 1, 1, 0, 1, 2}, api.ErrForm},
		"one V without a gap":                   {[]byte{5, 1, 1, 1, 1, 1}, api.ErrForm},
		"a row that may not be, and too short":  {[]byte{5, 1, 0, 1}, api.ErrShort},
		"a form that is met ahead of the end":   {[]byte{128, 0, 128}, api.ErrForm},
		"the end that is met ahead of a table":  {[]byte{5, 1, 1, 0, 1, 2, 7, 128}, api.ErrShort},
		"a form behind a row that may not be":   {[]byte{5, 1, 0, 1, 128, 0}, api.ErrForm},
	} {
		if x, e := ranges.Unpack(y.b); e != y.want || len(x.L) != 0 {
			t.Errorf("P1.4: %s: %v, %v", name, x, e)
		}
	}
}

func TestUnpackOfManyRows(t *testing.T) {
	row := []byte{2, 0, 1}
	full := append([]byte{0, 0, 1}, bytes.Repeat(row, most-1)...)
	if x, e := ranges.Unpack(full); e != api.OK || !slices.Equal(x.L, many(most)) {
		t.Errorf("P1.4: 4096 rows: %d, %v", len(x.L), e)
	}
	more := append(slices.Clone(full), row...)
	if x, e := ranges.Unpack(more); e != api.ErrForm || len(x.L) != 0 {
		t.Errorf("P1.4: 4097 rows: %d, %v", len(x.L), e)
	}
	more = append(more, bytes.Repeat(row, 9)...)
	if _, e := ranges.Unpack(more); e != api.ErrForm {
		t.Errorf("P1.4: 4106 rows: %v", e)
	}
	if _, e := ranges.Unpack(append(more, 2, 0)); e != api.ErrShort {
		t.Errorf("P1.4: more than 4096 rows, and one that is too short: %v", e)
	}
}

func TestUnpackOfEachBeginning(t *testing.T) {
	l := rows(5, 300, 2, 301, 301, 255, 20000, 0x10FFFF, 128)
	ends := map[int]int{0: 0}
	for k := range l {
		b, _ := ranges.Pack(ranges.Table{L: l[:k+1]})
		ends[len(b)] = k + 1
	}
	b, _ := ranges.Pack(ranges.Table{L: l})
	for n := range len(b) + 1 {
		x, e := ranges.Unpack(b[:n])
		if k, ok := ends[n]; ok && (e != api.OK || !slices.Equal(x.L, l[:k])) || !ok && (e != api.ErrShort || len(x.L) != 0) {
			t.Errorf("P1.4: the first %d bytes: %v, %v", n, x, e)
		}
	}
}

func TestUnpackSharesNothing(t *testing.T) {
	b := []byte{5, 2, 2, 1, 1, 3}
	was := slices.Clone(b)
	x, _ := ranges.Unpack(b)
	if !bytes.Equal(b, was) {
		t.Error("R3: what was handed in is changed")
	}
	clear(b)
	if !slices.Equal(x.L, rows(5, 7, 2, 8, 9, 3)) {
		t.Error("what was told is changed")
	}
}

func TestWhatIsPackedIsUnpacked(t *testing.T) {
	d := dice(1)
	tables := []ranges.Table{{L: many(most)}, {L: dense(most)}, table(0, 0x10FFFF, 255)}
	for k := 0; k < 500; k++ {
		tables = append(tables, thrown(&d, 5+d.roll(400)))
	}
	for _, x := range tables {
		b, e := ranges.Pack(x)
		y, f := ranges.Unpack(b)
		if e != api.OK || f != api.OK || !slices.Equal(x.L, y.L) {
			t.Fatalf("P1.5: of %d rows: %d, %v, %v", len(x.L), len(y.L), e, f)
		}
	}
}

func TestWhatIsUnpackedIsPacked(t *testing.T) {
	d := dice(2)
	good := 0
	for k := 0; k < 100000; k++ {
		b := make([]byte, d.roll(10))
		for i := range b {
			b[i] = byte(d.roll(256) >> (d.roll(3) * 3))
		}
		x, e := ranges.Unpack(b)
		if e != api.OK {
			continue
		}
		good++
		if c, f := ranges.Pack(x); f != api.OK || !bytes.Equal(b, c) {
			t.Fatalf("P1.5: %v is unpacked as %v, that is packed as %v, %v", b, x, c, f)
		}
	}
	if good < 1000 {
		t.Errorf("only %d lists of bytes were tables", good)
	}
}
