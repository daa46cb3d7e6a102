package charset

// firstGraphic is the letter that graphics begins with.
const firstGraphic = 0x5F

// graphics are the letters of DEC graphics, from firstGraphic on.
var graphics = [...]int{
	0x20,
	0x25C6, 0x2592, 0x2409, 0x240C, 0x240D, 0x240A, 0xB0, 0xB1,
	0x2424, 0x240B, 0x2518, 0x2510, 0x250C, 0x2514, 0x253C, 0x23BA,
	0x23BB, 0x2500, 0x23BC, 0x23BD, 0x251C, 0x2524, 0x2534, 0x252C,
	0x2502, 0x2264, 0x2265, 0x3C0, 0x2260, 0xA3, 0xB7,
}

// Graphic is a letter of DEC graphics.
func Graphic(r int) int {
	if r < firstGraphic || r >= firstGraphic+len(graphics) {
		return r
	}
	return graphics[r-firstGraphic]
}

// UK is a letter of the UK set.
func UK(r int) int {
	if r == '#' {
		return 0xA3
	}
	return r
}
