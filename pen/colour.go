package pen

// What a colour may be of.
const (
	ofUsual   = 0
	ofPalette = 1
	ofMixed   = 2
	ofNone    = 3
)

const (
	palette = 256     // how many colours the palette has
	mixed   = 1 << 24 // the first colour of red, green and blue
	octets  = 255     // the most of red, of green and of blue
)

// RGB is a colour.
func RGB(r, g, b int) int {
	return mixed + octet(r)<<16 + octet(g)<<8 + octet(b)
}

// Parts is what a colour is of.
func Parts(c int) (int, int, int, int) {
	switch {
	case c == 0:
		return ofUsual, 0, 0, 0
	case 1 <= c && c <= palette:
		return ofPalette, c - 1, 0, 0
	case mixed <= c && c < 2*mixed:
		return ofMixed, c >> 16 & octets, c >> 8 & octets, c & octets
	}
	return ofNone, 0, 0, 0
}

// octet is a number brought to 0 to 255.
func octet(n int) int { return max(0, min(n, octets)) }

// isColour: is it one?
func isColour(c int) bool {
	kind, _, _, _ := Parts(c)
	return kind != ofNone
}
