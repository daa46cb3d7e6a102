package calls

import (
	"math"
	"reflect"
)

// dice throws values that are the same each time, and keeps some that calls answered, since few others may be.
type dice struct {
	seed uint64
	kept map[reflect.Type][]reflect.Value
}

const (
	mostKept   = 24
	mostLeaves = 4000
)

// roll is a number below n.
func (d *dice) roll(n int) int {
	d.seed = d.seed*6364136223846793005 + 1442695040888963407
	return int(d.seed>>33) % n
}

// keep keeps a value for later calls, unless it is large.
func (d *dice) keep(v reflect.Value) {
	if !small(v) {
		return
	}
	l := d.kept[v.Type()]
	if len(l) < mostKept {
		d.kept[v.Type()] = append(l, v)
	} else {
		l[d.roll(mostKept)] = v
	}
}

// value is one of type t.
func (d *dice) value(t reflect.Type) reflect.Value {
	if l := d.kept[t]; len(l) > 0 && d.roll(2) == 0 {
		return l[d.roll(len(l))]
	}
	v := reflect.New(t).Elem()
	switch t.Kind() {
	case reflect.Bool:
		v.SetBool(d.roll(2) == 1)
	case reflect.Int:
		v.SetInt(int64(d.number()))
	case reflect.Uint8:
		v.SetUint(uint64(d.octet()))
	case reflect.Uint64:
		v.SetUint(d.bits())
	case reflect.String:
		b := make([]byte, d.roll(5))
		for k := range b {
			b[k] = d.octet()
		}
		v.SetString(string(b))
	case reflect.Slice:
		if n := d.roll(6); n > 0 {
			v.Set(reflect.MakeSlice(t, n-1, n+1))
			d.fill(v, n-1)
		}
	case reflect.Array:
		d.fill(v, v.Len())
	case reflect.Struct:
		for k := range v.NumField() {
			v.Field(k).Set(d.value(t.Field(k).Type))
		}
	default:
		panic("no values of " + t.String())
	}
	return v
}

func (d *dice) fill(v reflect.Value, n int) {
	for k := range n {
		v.Index(k).Set(d.value(v.Type().Elem()))
	}
}

// number is one of the numbers at which something changes, or a small one.
func (d *dice) number() int {
	edges := []int{math.MinInt, math.MinInt + 1, -65537, -2, -1, 0, 1, 2, 7, 8, 20, 62, 63, 64, 79, 80, 125, 126, 127, 128, 200, 255, 256,
		1000, 1003, 1006, 1024, 2004, 4095, 4096, 4097, 5000, 65535, 65536, 1 << 24, 1<<24 + 0xFFFFFF, 1 << 25, math.MaxInt - 1, math.MaxInt,
		'(', ')', '<', 'A', 0x300, 0x5D0, 0x627, 0x628, 0x644, 0x661, 0x2066, 0x2067, 0x2069, 0x202B, 0x2500, 0x3000, 0xD800, 0xFFFD, 0x10FFFF, 0x110000}
	if d.roll(2) == 0 {
		return d.roll(12)
	}
	return edges[d.roll(len(edges))]
}

// octet is a byte that something hangs on, or any.
func (d *dice) octet() byte {
	edges := "\x00\x01\x07\x08\x0a\x18\x1a\x1b\x1b[[]P0159;:?>$ mhlqrABCDHJKMn(\\~\x7f\x80\x84\x9b\x9c\xa0\xc2\xe2\x82\xac\xed\xf0\xf4\xff"
	if d.roll(4) == 0 {
		return byte(d.roll(256))
	}
	return edges[d.roll(len(edges))]
}

// bits are those of a float.
func (d *dice) bits() uint64 {
	edges := []float64{0, math.Copysign(0, -1), 0.5, -0.5, 1, 17, -1, 1e9, 1e300, -1e300, math.MaxFloat64, math.SmallestNonzeroFloat64, math.NaN(), math.Inf(1), math.Inf(-1)}
	return math.Float64bits(edges[d.roll(len(edges))])
}

// small: is a value of not too many numbers?
func small(v reflect.Value) bool {
	left := mostLeaves
	return count(v, &left)
}

func count(v reflect.Value, left *int) bool {
	*left--
	switch v.Kind() {
	case reflect.Slice, reflect.Array:
		for k := 0; k < v.Len() && *left >= 0; k++ {
			count(v.Index(k), left)
		}
	case reflect.Struct:
		for k := 0; k < v.NumField() && *left >= 0; k++ {
			count(v.Field(k), left)
		}
	}
	return *left >= 0
}

// twin is a value that shares nothing with v.
func twin(v reflect.Value) reflect.Value {
	out := reflect.New(v.Type()).Elem()
	switch v.Kind() {
	case reflect.Slice:
		if v.IsNil() {
			return out
		}
		out.Set(reflect.MakeSlice(v.Type(), v.Len(), v.Len()))
		fallthrough
	case reflect.Array:
		for k := range v.Len() {
			out.Index(k).Set(twin(v.Index(k)))
		}
	case reflect.Struct:
		for k := range v.NumField() {
			out.Field(k).Set(twin(v.Field(k)))
		}
	default:
		out.Set(v)
	}
	return out
}

// nothing: is a value a zero value, lists without elements being as good as nil?
func nothing(v reflect.Value) bool {
	switch v.Kind() {
	case reflect.Slice:
		return v.Len() == 0
	case reflect.Struct:
		for k := range v.NumField() {
			if !nothing(v.Field(k)) {
				return false
			}
		}
		return true
	}
	return v.IsZero()
}
