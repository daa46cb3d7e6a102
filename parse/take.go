package parse

import (
	"lapwing/api"
	"lapwing/params"
	"lapwing/utf"
)

// Controls that have a meaning of their own here.
const (
	bell       = 0x07
	cancel     = 0x18
	substitute = 0x1A
	escape     = 0x1B
	rubout     = 0x7F
	terminator = 0x9C
)

// take is what a letter makes of a state that is Sane.
func take(s State, r int) (State, []api.Action) {
	var next State
	var told, behind []api.Action
	switch {
	case r == cancel || r == substitute:
		// Ahead of all that goes to the end: of a string that these break off nothing is told.
		return State{}, executed(r)
	case r == escape:
		next.At = Escape
		goto end
	case r == terminator:
		goto end
	case 0x80 <= r && r <= 0x9F:
		next = opened(r)
		if next.At == Ground {
			behind = executed(r)
		}
		goto end
	case !isString(s.At):
		return outside(s, r)
	case s.At == Osc && r == bell:
		goto end
	}
	return inside(s, r), nil

end:
	switch s.At {
	case Osc:
		told = []api.Action{{What: OscEnd, Text: s.Text}}
	case Dcs:
		told = []api.Action{{What: DcsEnd, Text: s.Text}}
	case Sos:
		told = []api.Action{{What: SosEnd, Text: s.Text, Final: s.Kind}}
	}
	return next, append(told, behind...)
}

// opened is the state that one of 80 to 9F begins; Ground, if it is none that begins another.
func opened(r int) State {
	switch r {
	case 0x90:
		return State{At: Dcs}
	case 0x98:
		return State{At: Sos, Kind: 'X'}
	case 0x9B:
		return State{At: CsiEntry}
	case 0x9D:
		return State{At: Osc}
	case 0x9E:
		return State{At: Sos, Kind: '^'}
	case 0x9F:
		return State{At: Sos, Kind: '_'}
	}
	return State{}
}

// isString: is a string read there?
func isString(at int) bool { return at == Osc || at == Dcs || at == Sos }

// inside is a string's state behind a letter that does not end it.
func inside(s State, r int) State {
	if isControl(r) || r == rubout {
		return s
	}
	letter := utf.Put(r)
	if len(s.Text)+len(letter) <= api.MaxString {
		s.Text += string(letter)
	}
	return s
}

// outside is what a letter makes where no string is read.
func outside(s State, r int) (State, []api.Action) {
	switch {
	case isControl(r):
		return s, executed(r)
	case r == rubout:
		return s, nil
	case r < 0 || r > rubout || s.At == Ground:
		return State{}, []api.Action{{What: Print, R: r}}
	case s.At == Escape || s.At == EscInter:
		return inEscape(s, byte(r))
	case s.At == CsiIgnore:
		return inIgnored(s, byte(r)), nil
	}
	return inCsi(s, byte(r))
}

// isControl: is it one of 0 to 1F?
func isControl(r int) bool { return 0 <= r && r <= 0x1F }

// inEscape is what one of 20 to 7E makes of an escape sequence.
func inEscape(s State, c byte) (State, []api.Action) {
	if isInter(c) {
		return collected(s, c, EscInter), nil
	}
	if s.At == Escape {
		// ESC and one of 40 to 5F stand for one of 80 to 9F.
		if next := opened(int(c) + 0x40); next.At != Ground {
			return next, nil
		}
	}
	return finished(s, api.Action{What: Esc, Inter: s.Inter, Final: c})
}

// inCsi is what one of 20 to 7E makes of a control sequence that is not ignored.
func inCsi(s State, c byte) (State, []api.Action) {
	switch {
	case isInter(c):
		return collected(s, c, CsiInter), nil
	case c >= 0x40:
		return finished(s, api.Action{What: Csi, Inter: s.Inter, Params: s.Params.L, Final: c})
	case s.At == CsiEntry && isPrivate(c):
		return collected(s, c, CsiParam), nil
	case s.At == CsiInter || isPrivate(c):
		s.At = CsiIgnore
		return s, nil
	}
	s.At = CsiParam
	s.Params = numbered(s.Params, c)
	return s, nil
}

// inIgnored is the state behind one of 20 to 7E, of which nothing is told.
func inIgnored(s State, c byte) State {
	if c >= 0x40 {
		return State{}
	}
	return s
}

// numbered is parameters with a digit, ';' or ':' more.
func numbered(p params.List, c byte) params.List {
	switch c {
	case ';':
		return params.Next(p)
	case ':':
		return params.Sub(p)
	}
	return params.Digit(p, c)
}

// collected is a state with a letter behind Inter, if there is room, that goes on there.
func collected(s State, c byte, at int) State {
	s.At = at
	if len(s.Inter) == api.MaxInter {
		s.Over = true
	} else {
		s.Inter += string(rune(c))
	}
	return s
}

// finished is what the final byte of a sequence tells: nothing, if something between was lost.
func finished(s State, a api.Action) (State, []api.Action) {
	if s.Over {
		return State{}, nil
	}
	return State{}, []api.Action{a}
}

// executed is what a control tells.
func executed(r int) []api.Action {
	return []api.Action{{What: Exec, Final: byte(r)}}
}
