package params

import (
	"slices"

	"lapwing/api"
)

// maker is parameters that nobody else has: they may be changed where they lie.
type maker struct{ List }

// step is what a digit, ';' or ':' makes of parameters.
func step(p List, c byte) List {
	if !Sane(p) {
		return List{}
	}
	m := own(p)
	m.by(c)(c)
	return m.List
}

// own is a maker of p.
func own(p List) maker {
	// Each parameter too, because p's may have room behind its end, where one that is longer would be written.
	l := make([][]int, len(p.L))
	for k, numbers := range p.L {
		l[k] = slices.Clone(numbers)
	}
	return maker{List{L: l, Open: p.Open}}
}

// by is what a byte does; nil, if it is none of parameters.
func (m *maker) by(c byte) func(byte) {
	switch {
	case isDigit(c):
		return m.digit
	case c == ';':
		return m.next
	case c == ':':
		return m.sub
	}
	return nil
}

// digit lays a digit behind the last number, unless there was no room for that.
func (m *maker) digit(c byte) {
	m.begin()
	if !m.Open {
		return
	}
	numbers := m.L[len(m.L)-1]
	k := len(numbers) - 1
	// A number that was left out begins as 0 does.
	n := 10*max(numbers[k], 0) + int(c-'0')
	numbers[k] = min(n, api.MaxNumber)
}

// next begins one more, if there is room.
func (m *maker) next(byte) {
	m.begin()
	if len(m.L) == api.MaxParams {
		m.Open = false
		return
	}
	m.add()
}

// sub begins a number more of the last one, if there is room.
func (m *maker) sub(byte) {
	m.begin()
	k := len(m.L) - 1
	m.Open = m.Open && len(m.L[k]) < api.MaxSubs
	if m.Open {
		m.L[k] = append(m.L[k], none)
	}
}

// begin sees to it that there is a parameter.
func (m *maker) begin() {
	if len(m.L) == 0 {
		m.add()
	}
}

// add lays a parameter behind the last one.
func (m *maker) add() {
	m.L = append(m.L, []int{none})
	m.Open = true
}
