package ranges

import "lapwing/api"

// mostBytes is how many bytes a number has at most.
const mostBytes = 4

// Pack is a table as bytes.
func Pack(t Table) ([]byte, api.Errno) {
	if !Sane(t) {
		return nil, api.ErrArg
	}
	var b []byte
	last := 0
	for _, x := range t.L {
		b = tell(b, x.Lo-last, x.Hi-x.Lo, x.V)
		last = x.Hi
	}
	return b, api.OK
}

// Unpack is bytes as a table.
func Unpack(b []byte) (Table, api.Errno) {
	var l []Row
	last := 0
	for len(b) > 0 {
		var x Row
		var e api.Errno
		if x, b, e = read(b, last); e != api.OK {
			return Table{}, e
		}
		last = x.Hi
		// One row too many is enough to tell that the table may not be; only the form of the others matters.
		if len(l) <= mostRows {
			l = append(l, x)
		}
	}
	if !Sane(Table{L: l}) {
		return Table{}, api.ErrForm
	}
	return Table{L: l}, api.OK
}

// tell lays numbers behind b.
func tell(b []byte, numbers ...int) []byte {
	for _, n := range numbers {
		for ; n >= 128; n /= 128 {
			b = append(b, byte(n%128+128))
		}
		b = append(b, byte(n))
	}
	return b
}

// read is the row at the beginning of b, behind one that ends with last, and the bytes behind it.
func read(b []byte, last int) (Row, []byte, api.Errno) {
	var numbers [3]int
	for k := range numbers {
		n, size, e := number(b)
		if e != api.OK {
			return Row{}, nil, e
		}
		numbers[k] = n
		b = b[size:]
	}
	lo := last + numbers[0]
	return Row{Lo: lo, Hi: lo + numbers[1], V: numbers[2]}, b, api.OK
}

// number is the number at the beginning of b, and of how many bytes it is.
func number(b []byte) (int, int, api.Errno) {
	n := 0
	for k, c := range b {
		n += int(c%128) << (7 * k)
		switch {
		case c >= 128 && k+1 < mostBytes:
			continue
		case c >= 128 || c == 0 && k > 0:
			return 0, 0, api.ErrForm
		}
		return n, k + 1, api.OK
	}
	return 0, 0, api.ErrShort
}
