package pen

// under is the number of which a second one tells how letters are underlined.
const under = 4

// lines are the flags of which one goes when the other one is set.
const lines = Under | Double

// toggle is a flag, the number that sets it, and the one that takes it away.
type toggle struct{ flag, on, off int }

// toggles are those of all flags, in the order of the constants.
var toggles = [...]toggle{
	{Bold, 1, 22},
	{Faint, 2, 22},
	{Italic, 3, 23},
	{Under, under, 24},
	{Blink, 5, 25},
	{Inverse, 7, 27},
	{Hidden, 8, 28},
	{Struck, 9, 29},
	{Double, 21, 24},
}

// switched is flags by a number that sets one, or takes some away.
func switched(flags, n int) int {
	for _, y := range toggles {
		switch n {
		case y.on:
			return with(flags, y.flag)
		case y.off:
			// No end here, because the same number may take another one away.
			flags &^= y.flag
		}
	}
	return flags
}

// underlined is flags by the second number of under.
func underlined(flags, second int) int {
	switch second {
	case 0:
		return flags &^ lines
	case 2:
		return with(flags, Double)
	}
	return with(flags, Under)
}

// with is flags with one more.
func with(flags, flag int) int {
	if flag&lines != 0 {
		flags &^= lines
	}
	return flags | flag
}
