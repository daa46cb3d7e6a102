package utf_test

import (
	"bytes"
	"math/rand"
	"slices"
	"testing"

	"lapwing/utf"
)

// mayNotBe are bytes that are no beginning.
func mayNotBe() [][]byte {
	return [][]byte{
		{0x00}, {'a'}, {0x7F}, {0xC2, 0x80}, {0xC3, 0xA9}, {0xE2, 0x82, 0xAC}, {0xED, 0x9F, 0xBF}, {0xEF, 0xBF, 0xBD}, {0xF0, 0x9F, 0x98, 0x80}, {0xF4, 0x8F, 0xBF, 0xBF}, // a whole letter
		{0x80}, {0xBF}, {0xC0}, {0xC1}, {0xF5}, {0xFE}, {0xFF}, // a byte that begins nothing
		{'a', 'b'}, {'a', 0xE2}, {0xC3, 0xA9, 'a'}, {0xC3, 0xA9, 0xE2, 0x82}, {0xE2, 0x82, 0xAC, 0xE2}, {0xF0, 0x9F, 0x98, 0x80, 0xF0}, {0xF0, 0x9F, 0x98, 0x80, 0xF0, 0x9F, 0x98}, // more than one letter
		{0xE2, 'A'}, {0xE2, 0xE2}, {0xE2, 0x82, 'A'}, {0xE2, 0x82, 0xE2}, {0xF0, 0x9F, 'A'}, {0xF0, 0x9F, 0x98, 'A'}, {0xF0, 0x9F, 0x98, 0xF0}, {0xC3, 0xC3}, // a beginning that is broken off
		{0xE0, 0x80}, {0xE0, 0x9F}, {0xED, 0xA0}, {0xED, 0xBF}, {0xF0, 0x80}, {0xF0, 0x8F}, {0xF4, 0x90}, {0xF4, 0xBF}, // a second byte that may not be
		{0xC0, 0x80}, {0xF5, 0x80}, {0x80, 0xE2}, {0xE2, 0x82, 0x82, 0x82}, bytes.Repeat([]byte{0xF1}, 5000),
	}
}

// mayBe are beginnings, or nothing.
func mayBe() [][]byte {
	return [][]byte{
		nil, {},
		{0xC2}, {0xDF}, {0xE0}, {0xE1}, {0xEC}, {0xED}, {0xEE}, {0xEF}, {0xF0}, {0xF1}, {0xF3}, {0xF4},
		{0xE0, 0xA0}, {0xE0, 0xBF}, {0xE1, 0x80}, {0xEC, 0xBF}, {0xED, 0x80}, {0xED, 0x9F}, {0xEE, 0x80}, {0xEF, 0xBF}, {0xF0, 0x90}, {0xF0, 0xBF}, {0xF1, 0x80}, {0xF3, 0xBF}, {0xF4, 0x80}, {0xF4, 0x8F},
		{0xF0, 0x90, 0x80}, {0xF0, 0xBF, 0xBF}, {0xF1, 0x80, 0x80}, {0xF3, 0xBF, 0xBF}, {0xF4, 0x80, 0x80}, {0xF4, 0x8F, 0xBF},
	}
}

func TestSane(t *testing.T) {
	for _, b := range mayBe() {
		if !utf.Sane(utf.State{B: b}) {
			t.Errorf("P3.1: %x is not Sane", b)
		}
	}
	for _, b := range mayNotBe() {
		if utf.Sane(utf.State{B: b}) {
			t.Errorf("P3.1: %x is Sane", b[:min(len(b), 9)])
		}
	}
	ask := func(b []byte) {
		if is, want := utf.Sane(utf.State{B: b}), begins(b); is != want {
			t.Errorf("P3.1: Sane of %x: %v", b, is)
		}
	}
	for c := range 256 {
		ask([]byte{byte(c)})
		for d := range 256 {
			ask([]byte{byte(c), byte(d)})
		}
	}
	each(edges(), 3, ask)
	each(edges(), 4, ask)
}

func TestWhatIsNotSaneTellsNothing(t *testing.T) {
	for _, b := range mayNotBe() {
		s := utf.State{B: b}
		for _, more := range [][]byte{nil, {}, {'x'}, {0xAC}, {0xE2}, []byte("xyz")} {
			if u, l := utf.Feed(s, more); len(u.B) != 0 || len(l) != 0 {
				t.Errorf("P3.1: %x, and %x behind it: %x, %x", b[:min(len(b), 9)], more, u.B, l)
			}
		}
		if l := utf.End(s); len(l) != 0 {
			t.Errorf("P3.2: the end of %x: %x", b[:min(len(b), 9)], l)
		}
	}
}

// example is bytes, their letters, and what is left of them.
type example struct {
	b    []byte
	l    []int
	left []byte
}

func examples() map[string]example {
	return map[string]example{
		"nil":                         {},
		"empty":                       {b: []byte{}},
		"one of each length":          {[]byte("aé€😀"), []int{'a', 0xE9, 0x20AC, 0x1F600}, nil},
		"the document's example":      {[]byte{0xE2, 0x82, 0x41}, []int{bad, 'A'}, nil},
		"FFFD itself":                 {[]byte{0xEF, 0xBF, 0xBD}, []int{bad}, nil},
		"one byte":                    {[]byte{0x00, 0x7F}, []int{0, 0x7F}, nil},
		"two bytes, first":            {[]byte{0xC2, 0x80}, []int{0x80}, nil},
		"two bytes, last":             {[]byte{0xDF, 0xBF}, []int{0x7FF}, nil},
		"E0, first":                   {[]byte{0xE0, 0xA0, 0x80}, []int{0x800}, nil},
		"E0, last":                    {[]byte{0xE0, 0xBF, 0xBF}, []int{0xFFF}, nil},
		"E1, first":                   {[]byte{0xE1, 0x80, 0x80}, []int{0x1000}, nil},
		"EC, last":                    {[]byte{0xEC, 0xBF, 0xBF}, []int{0xCFFF}, nil},
		"ED, first":                   {[]byte{0xED, 0x80, 0x80}, []int{0xD000}, nil},
		"ED, last":                    {[]byte{0xED, 0x9F, 0xBF}, []int{0xD7FF}, nil},
		"EE, first":                   {[]byte{0xEE, 0x80, 0x80}, []int{0xE000}, nil},
		"EE, last":                    {[]byte{0xEE, 0xBF, 0xBF}, []int{0xEFFF}, nil},
		"EF, first":                   {[]byte{0xEF, 0x80, 0x80}, []int{0xF000}, nil},
		"EF, last":                    {[]byte{0xEF, 0xBF, 0xBF}, []int{0xFFFF}, nil},
		"F0, first":                   {[]byte{0xF0, 0x90, 0x80, 0x80}, []int{0x10000}, nil},
		"F0, last":                    {[]byte{0xF0, 0xBF, 0xBF, 0xBF}, []int{0x3FFFF}, nil},
		"F1, first":                   {[]byte{0xF1, 0x80, 0x80, 0x80}, []int{0x40000}, nil},
		"F3, last":                    {[]byte{0xF3, 0xBF, 0xBF, 0xBF}, []int{0xFFFFF}, nil},
		"F4, first":                   {[]byte{0xF4, 0x80, 0x80, 0x80}, []int{0x100000}, nil},
		"F4, last":                    {[]byte{0xF4, 0x8F, 0xBF, 0xBF}, []int{0x10FFFF}, nil},
		"below two bytes":             {[]byte{0xC1, 0xBF}, []int{bad, bad}, nil},
		"two bytes, below the second": {[]byte{0xC2, 0x7F}, []int{bad, 0x7F}, nil},
		"two bytes, above the second": {[]byte{0xDF, 0xC0}, []int{bad, bad}, nil},
		"E0, below the second":        {[]byte{0xE0, 0x9F, 0xBF}, []int{bad, bad, bad}, nil},
		"E0, above the second":        {[]byte{0xE0, 0xC0, 0x80}, []int{bad, bad, bad}, nil},
		"E0, below the third":         {[]byte{0xE0, 0xA0, 0x7F}, []int{bad, 0x7F}, nil},
		"E0, above the third":         {[]byte{0xE0, 0xA0, 0xC0}, []int{bad, bad}, nil},
		"E1, below the second":        {[]byte{0xE1, 0x7F, 0x80}, []int{bad, 0x7F, bad}, nil},
		"EC, above the second":        {[]byte{0xEC, 0xC0, 0x80}, []int{bad, bad, bad}, nil},
		"ED, below the second":        {[]byte{0xED, 0x7F, 0x80}, []int{bad, 0x7F, bad}, nil},
		"ED, above the second":        {[]byte{0xED, 0xA0, 0x80}, []int{bad, bad, bad}, nil},
		"F0, below the second":        {[]byte{0xF0, 0x8F, 0xBF, 0xBF}, []int{bad, bad, bad, bad}, nil},
		"F0, above the second":        {[]byte{0xF0, 0xC0, 0x80, 0x80}, []int{bad, bad, bad, bad}, nil},
		"F0, below the third":         {[]byte{0xF0, 0x90, 0x7F, 0x80}, []int{bad, 0x7F, bad}, nil},
		"F0, above the third":         {[]byte{0xF0, 0x90, 0xC0, 0x80}, []int{bad, bad, bad}, nil},
		"F0, below the fourth":        {[]byte{0xF0, 0x90, 0x80, 0x7F}, []int{bad, 0x7F}, nil},
		"F0, above the fourth":        {[]byte{0xF0, 0x90, 0x80, 0xC0}, []int{bad, bad}, nil},
		"F4, below the second":        {[]byte{0xF4, 0x7F, 0x80, 0x80}, []int{bad, 0x7F, bad, bad}, nil},
		"F4, above the second":        {[]byte{0xF4, 0x90, 0x80, 0x80}, []int{bad, bad, bad, bad}, nil},
		"above F4":                    {[]byte{0xF5, 0x80, 0x80, 0x80}, []int{bad, bad, bad, bad}, nil},
		"one, and a letter":           {[]byte{0xE2, 'A'}, []int{bad, 'A'}, nil},
		"two, and a letter":           {[]byte{0xF0, 0x9F, 0xC3, 0xA9}, []int{bad, 0xE9}, nil},
		"three, and a letter":         {[]byte{0xF0, 0x9F, 0x98, 0xE2, 0x82, 0xAC}, []int{bad, 0x20AC}, nil},
		"one, and one more":           {[]byte{0xE2, 0xE2}, []int{bad}, []byte{0xE2}},
		"two, and two more":           {[]byte{0xE2, 0x82, 0xE2, 0x82}, []int{bad}, []byte{0xE2, 0x82}},
		"three, and three more":       {[]byte{0xF1, 0x80, 0x80, 0xF4, 0x8F, 0xBF}, []int{bad}, []byte{0xF4, 0x8F, 0xBF}},
		"one, and what begins none":   {[]byte{0xC3, 0xFF}, []int{bad, bad}, nil},
		"two, and what begins none":   {[]byte{0xE2, 0x82, 0xC0}, []int{bad, bad}, nil},
		"three, and what begins none": {[]byte{0xF0, 0x9F, 0x98, 0xF5}, []int{bad, bad}, nil},
		"one, and the end":            {[]byte{'x', 0xC3}, []int{'x'}, []byte{0xC3}},
		"two, and the end":            {[]byte{'x', 0xE2, 0x82}, []int{'x'}, []byte{0xE2, 0x82}},
		"three, and the end":          {[]byte{'x', 0xF0, 0x9F, 0x98}, []int{'x'}, []byte{0xF0, 0x9F, 0x98}},
		"none ahead of a letter":      {[]byte{0x80, 'a'}, []int{bad, 'a'}, nil},
		"none between letters":        {[]byte{0xC3, 0xA9, 0xBF, 0xFF, 0xC3, 0xA9}, []int{0xE9, bad, bad, 0xE9}, nil},
		"none behind a letter":        {[]byte{0xE2, 0x82, 0xAC, 0x80, 0x80}, []int{0x20AC, bad, bad}, nil},
		"none behind four bytes":      {[]byte{0xF0, 0x9F, 0x98, 0x80, 0x80}, []int{0x1F600, bad}, nil},
		"none, and a beginning":       {[]byte{0xFF, 0xF4}, []int{bad}, []byte{0xF4}},
		"many of one":                 {bytes.Repeat([]byte{0xF0}, 3), []int{bad, bad}, []byte{0xF0}},
	}
}

func TestFeedOfNothingEndAndAll(t *testing.T) {
	for name, y := range examples() {
		for _, b := range [][]byte{nil, {}} {
			s, l := utf.Feed(utf.State{B: b}, y.b)
			if !slices.Equal(l, y.l) || !bytes.Equal(s.B, y.left) {
				t.Errorf("P3.1: %s: %x, left %x", name, l, s.B)
			}
		}
		want := y.l
		if len(y.left) > 0 {
			want = append(slices.Clone(y.l), bad)
		}
		if l := utf.All(y.b); !slices.Equal(l, want) {
			t.Errorf("P3.2: %s: %x", name, l)
		}
	}
	for _, b := range mayBe() {
		want := []int{bad}
		if len(b) == 0 {
			want = nil
		}
		if l := utf.End(utf.State{B: b}); !slices.Equal(l, want) {
			t.Errorf("P3.2: the end of %x: %x", b, l)
		}
		if s, l := utf.Feed(utf.State{B: b}, nil); len(l) != 0 || !bytes.Equal(s.B, b) {
			t.Errorf("P3.1: nothing behind %x: %x, left %x", b, l, s.B)
		}
	}
}

// agree holds what bytes come to against what the document says of them.
func agree(t *testing.T, b []byte) {
	t.Helper()
	want, left := told(b)
	s, l := utf.Feed(utf.State{}, b)
	if !slices.Equal(l, want) || !bytes.Equal(s.B, left) {
		t.Errorf("P3.1: %x: %x, left %x", b, l, s.B)
	}
	if len(left) > 0 {
		want = append(want, bad)
	}
	if l := utf.All(b); !slices.Equal(l, want) {
		t.Errorf("P3.2: %x: %x", b, l)
	}
}

func TestEveryByte(t *testing.T) {
	for c := range 256 {
		agree(t, []byte{byte(c)})
		for d := range 256 {
			agree(t, []byte{byte(c), byte(d)})
		}
		for _, ahead := range mayBe() {
			agree(t, append(slices.Clone(ahead), byte(c)))
			agree(t, append(slices.Clone(ahead), byte(c), 0x80, 'a'))
		}
	}
}

func TestBytesAtEdges(t *testing.T) {
	for n := range 5 {
		each(edges(), n, func(b []byte) {
			if !t.Failed() {
				agree(t, b)
			}
		})
	}
}

func TestThrownBytes(t *testing.T) {
	r := rand.New(rand.NewSource(3))
	for k := range 3000 {
		agree(t, thrown(r, k%40))
	}
	agree(t, thrown(r, 1<<20))
}
