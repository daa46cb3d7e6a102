package ucd

import (
	"slices"
	"strconv"
	"strings"

	"lapwing/ranges"
)

// The names that stand in the texts: each stands for one more than its place here.
const (
	classNames = "L R AL EN ES ET AN CS NSM BN B S WS ON LRE LRO RLE RLO PDF LRI RLI FSI PDI"
	wideNames  = "0 1 2"
	joinNames  = "R D C T"
)

// Load is the tables.
func Load() Data {
	return Data{
		Class:    table(classText, classNames),
		Wide:     table(wideText, wideNames),
		Join:     table(joinText, joinNames),
		Mirror:   pairs(mirrorText),
		Brackets: pairs(bracketText),
		Forms:    forms(formText),
	}
}

// table is a text's ranges.
func table(text, names string) ranges.Table {
	values := strings.Fields(names)
	var l []ranges.Row
	for _, words := range entries(text) {
		l = append(l, row(words, values))
	}
	// Make refuses none of the texts, which are constants.
	t, _ := ranges.Make(l)
	return t
}

// row is what an entry tells of a range: where it begins, where it ends, and its name among values.
func row(words, values []string) ranges.Row {
	var x ranges.Row
	switch len(words) {
	case 2:
		// A letter alone is a range that ends where it begins.
		words = []string{words[0], words[0], words[1]}
		fallthrough
	case 3:
		x = ranges.Row{Lo: hex(words[0]), Hi: hex(words[1]), V: slices.Index(values, words[2]) + 1}
	}
	return x
}

// pairs is a text's pairs.
func pairs(text string) []Pair {
	var l []Pair
	for _, words := range entries(text) {
		l = append(l, Pair{A: hex(words[0]), B: hex(words[1])})
	}
	return l
}

// forms is a text's forms.
func forms(text string) []Form {
	var l []Form
	for _, words := range entries(text) {
		l = append(l, Form{R: hex(words[0]), At: hex(words[1]), N: hex(words[2])})
	}
	return l
}

// entries are the words of each of a text's entries.
func entries(text string) [][]string {
	var all [][]string
	for _, entry := range strings.Split(text, ",") {
		all = append(all, strings.FieldsFunc(entry, between))
	}
	return all
}

// between: does a letter stand between words?
func between(c rune) bool { return c == ' ' || c == '\n' || c == '-' }

// hex is a number of sixteen digits.
func hex(word string) int {
	n, _ := strconv.ParseInt(word, 16, 32)
	return int(n)
}
