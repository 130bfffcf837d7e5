package conv_test

import (
	"math"
	"math/big"
	"slices"
	"testing"

	"cutplane/api"
)

const (
	bothOver  = api.Overflow | api.Inexact
	bothUnder = api.Underflow | api.Inexact
)

// table is what the chapter on words says of a format, written out here by itself.
type table struct {
	f                       api.Format
	precision, least, limit int
	sign, inf, nan, full    uint64
}

func table32() table {
	return table{api.F32, 24, -149, 128, 0x80000000, 0x7F800000, 0x7FC00000, 0xFFFFFFFF}
}

func table64() table {
	return table{api.F64, 53, -1074, 1024, 0x8000000000000000, 0x7FF0000000000000, 0x7FF8000000000000, 0xFFFFFFFFFFFFFFFF}
}

func tables() []table { return []table{table32(), table64()} }

func modes() []api.Mode {
	return []api.Mode{api.ToEven, api.ToAway, api.ToZero, api.ToUp, api.ToDown}
}

// mirror is the mode that does below nought what m does above it.
func mirror(m api.Mode) api.Mode {
	switch m {
	case api.ToUp:
		return api.ToDown
	case api.ToDown:
		return api.ToUp
	}
	return m
}

// dice is a row of numbers that look thrown, the same at each run.
type dice uint64

func (d *dice) next() uint64 {
	*d ^= *d << 13
	*d ^= *d >> 7
	*d ^= *d << 17
	return uint64(*d)
}

func (d *dice) below(n int) int { return int(d.next() % uint64(n)) }

// about is a number that is at most so far from the one told.
func (d *dice) about(n, far int) int { return n - far + d.below(2*far+1) }

// step is the words of one exponent field; it is the least normal word, too.
func (k table) step() uint64 { return 1 << (k.precision - 1) }

// bias is the field of 1.
func (k table) bias() int { return k.limit - 1 }

// power is the word of 2^n, which is normal.
func (k table) power(n int) uint64 { return uint64(n+k.bias()) << (k.precision - 1) }

// field is the word's exponent field.
func (k table) field(w uint64) int { return int(w % k.sign / k.step()) }

// word is a finite word of either sign, often with long runs of one bit; its field is about the one told, as far as there are such.
func (k table) word(d *dice, field, about int) uint64 {
	frac := d.next() % k.step()
	switch d.below(4) {
	case 0:
		frac &= k.step() - 1<<d.below(k.precision)
	case 1:
		frac |= 1<<d.below(k.precision) - 1
	}
	top := int(k.inf / k.step())
	field = min(max(d.about(field, about), 0), top-1)
	return uint64(field)*k.step() + frac + k.sign*(d.next()%2)
}

// anyWord is a finite word with any field.
func (k table) anyWord(d *dice) uint64 { return k.word(d, k.bias(), k.bias()) }

// edges is finite words above nought: subnormal, about the least normal one, about 1, about whole numbers' ends, the greatest.
func (k table) edges() []uint64 {
	one, low, p := k.power(0), k.step(), k.precision
	return []uint64{
		1, 2, 3, 5, low / 2, low - 2, low - 1,
		low, low + 1, 2*low - 1, 2 * low, 3*low + low/2,
		k.power(-p - 1), k.power(-1) - 1, k.power(-1), k.power(-1) + 1, one - 1,
		one, one + 1, one + 3, one + low/2, k.power(1) - 1, k.power(1), k.power(1) + low/4, k.power(1) + low/2,
		k.power(p-2) + 1, k.power(p-1) - 1, k.power(p-1) + 1, k.power(p) - 1, k.power(p), k.power(p) + 1,
		k.power(63) - 1, k.power(63), k.power(63) + 1,
		k.power(k.limit/2) - 1, k.power(k.limit / 2),
		k.power(k.limit - 1), k.inf - 2, k.inf - 1,
	}
}

// signed is the words and those with the other sign.
func (k table) signed(words ...uint64) []uint64 {
	list := slices.Clone(words)
	for _, w := range words {
		list = append(list, w|k.sign)
	}
	return list
}

// nans is NaNs of both signs, canonical or not.
func (k table) nans() []uint64 {
	return k.signed(k.nan, k.nan+1, k.inf+1, k.inf+2, k.nan-1, k.sign-1)
}

// everyField is words of each finite field with fractions at the ends, of both signs.
func (k table) everyField() []uint64 {
	var list []uint64
	for field := uint64(0); field < k.inf; field += k.step() {
		for _, frac := range []uint64{0, 1, k.step() / 2, k.step() - 2, k.step() - 1} {
			list = append(list, k.signed(field+frac)...)
		}
	}
	return list
}

// float is the word's float, as the library has it; each of F32 is one of F64 too.
func (k table) float(w uint64) float64 {
	if k.f == api.F32 {
		return float64(math.Float32frombits(uint32(w)))
	}
	return math.Float64frombits(w)
}

// bitsOf is the word of a float that the format has.
func (k table) bitsOf(x float64) uint64 {
	if k.f == api.F32 {
		return uint64(math.Float32bits(float32(x)))
	}
	return math.Float64bits(x)
}

// value is a finite word's value.
func (k table) value(w uint64) *big.Float { return exactly(blank().SetFloat64(k.float(w))) }

// told is what a call answers: a word, flags, an error.
type told struct {
	word  uint64
	flags api.Flags
	err   api.Errno
}

func got(w uint64, flags api.Flags, e api.Errno) told { return told{w, flags, e} }

// gotInt is got of a call that answers a whole number.
func gotInt(n int64, flags api.Flags, e api.Errno) told { return told{uint64(n), flags, e} }

// is fails the test, if not the word and the flags were answered, without an error; x is what the call was handed.
func (g told) is(t *testing.T, w uint64, flags api.Flags, name string, k table, m api.Mode, x ...uint64) {
	t.Helper()
	if g != (told{w, flags, api.OK}) {
		t.Fatalf("%s, format %d, mode %d, of %x: %x flags %d error %d, not %x flags %d", name, k.f, m, x, g.word, g.flags, g.err, w, flags)
	}
}

// refused fails the test, if not the error was answered, and zeros beside it.
func (g told) refused(t *testing.T, e api.Errno, name string, x ...uint64) {
	t.Helper()
	if g != (told{err: e}) {
		t.Fatalf("%s of %x: %x flags %d error %d, not error %d", name, x, g.word, g.flags, g.err, e)
	}
}

// row is what the modes ToEven, ToAway, ToZero, ToUp, ToDown answer of a word above nought, worked out by hand.
type row struct {
	name  string
	x     uint64
	words [5]uint64
	flags [5]api.Flags
}

func same5(f api.Flags) [5]api.Flags { return [5]api.Flags{f, f, f, f, f} }

func all5(w uint64) [5]uint64 { return [5]uint64{w, w, w, w, w} }

// up5 is the word w, and the next one in the mode ToUp.
func up5(w uint64) [5]uint64 { return [5]uint64{w, w, w, w + 1, w} }

// near5 is the next word, and w in the modes ToZero and ToDown.
func near5(w uint64) [5]uint64 { return [5]uint64{w + 1, w + 1, w, w + 1, w} }

// half5 is what is told of a number half way between w, which is even, and the next word.
func half5(w uint64) [5]uint64 { return [5]uint64{w, w + 1, w, w + 1, w} }

// over5 is what stands for a number that is too great.
func (k table) over5() [5]uint64 { return [5]uint64{k.inf, k.inf, k.inf - 1, k.inf, k.inf - 1} }

// in5 is the flags f, and others in the modes ToZero and ToDown.
func in5(f, inward api.Flags) [5]api.Flags { return [5]api.Flags{f, f, inward, f, inward} }
