package soft_test

import (
	"math"
	"slices"
	"testing"

	"cutplane/api"
	"cutplane/soft"
)

const (
	bothOver  = api.Overflow | api.Inexact
	bothUnder = api.Underflow | api.Inexact
)

// table is what the chapter on words says of a format, written out here by itself.
type table struct {
	f                       api.Format
	precision, least, limit int
	sign, inf, nan, full    uint64
}

func tables() []table {
	return []table{
		{api.F32, 24, -149, 128, 0x80000000, 0x7F800000, 0x7FC00000, 0xFFFFFFFF},
		{api.F64, 53, -1074, 1024, 0x8000000000000000, 0x7FF0000000000000, 0x7FF8000000000000, 0xFFFFFFFFFFFFFFFF},
	}
}

func modes() []api.Mode {
	return []api.Mode{api.ToEven, api.ToAway, api.ToZero, api.ToUp, api.ToDown}
}

// mirror is the mode that does below nought what m does above it.
func mirror(m api.Mode) api.Mode {
	switch m {
	case api.ToUp:
		return api.ToDown
	case api.ToDown:
		return api.ToUp
	}
	return m
}

// call is a call that is handed so many words; it looks at no more of the list.
type call struct {
	name  string
	words int
	of    func(f api.Format, m api.Mode, x ...uint64) (uint64, api.Flags, api.Errno)
}

type two func(f api.Format, m api.Mode, a, b uint64) (uint64, api.Flags, api.Errno)

func callOfTwo(name string, of two) call {
	return call{name, 2, func(f api.Format, m api.Mode, x ...uint64) (uint64, api.Flags, api.Errno) {
		return of(f, m, x[0], x[1])
	}}
}

func callAdd() call { return callOfTwo("Add", soft.Add) }
func callSub() call { return callOfTwo("Sub", soft.Sub) }
func callMul() call { return callOfTwo("Mul", soft.Mul) }
func callDiv() call { return callOfTwo("Div", soft.Div) }

func callSqrt() call {
	return call{"Sqrt", 1, func(f api.Format, m api.Mode, x ...uint64) (uint64, api.Flags, api.Errno) {
		return soft.Sqrt(f, m, x[0])
	}}
}

func callMulAdd() call {
	return call{"MulAdd", 3, func(f api.Format, m api.Mode, x ...uint64) (uint64, api.Flags, api.Errno) {
		return soft.MulAdd(f, m, x[0], x[1], x[2])
	}}
}

func calls() []call {
	return []call{callAdd(), callSub(), callMul(), callDiv(), callSqrt(), callMulAdd()}
}

// dice is a row of numbers that look thrown, the same at each run.
type dice uint64

func (d *dice) next() uint64 {
	*d ^= *d << 13
	*d ^= *d >> 7
	*d ^= *d << 17
	return uint64(*d)
}

func (d *dice) below(n int) int { return int(d.next() % uint64(n)) }

// step is the words of one exponent field.
func (k table) step() uint64 { return 1 << (k.precision - 1) }

// bias is the field of 1.
func (k table) bias() int { return k.limit - 1 }

// power is the word of 2^n, which is normal.
func (k table) power(n int) uint64 { return uint64(n+k.bias()) << (k.precision - 1) }

// word is a finite word of either sign, often with long runs of one bit; its field is about the one told, as far as there are such.
func (k table) word(d *dice, field, about int) uint64 {
	frac := d.next() % k.step()
	switch d.below(4) {
	case 0:
		frac &= k.step() - 1<<d.below(k.precision)
	case 1:
		frac |= 1<<d.below(k.precision) - 1
	}
	top := int(k.inf / k.step())
	field = min(max(field-about+d.below(2*about+1), 0), top-1)
	return uint64(field)*k.step() + frac + k.sign*(d.next()%2)
}

// anyWord is a finite word with any field.
func (k table) anyWord(d *dice) uint64 { return k.word(d, k.bias(), k.bias()) }

// field is the word's exponent field.
func (k table) field(w uint64) int { return int(w % k.sign / k.step()) }

// edges is finite words above nought: subnormal, about the least normal one, about 1, far apart, the greatest.
func (k table) edges() []uint64 {
	one, low := k.power(0), k.step()
	return []uint64{
		1, 2, 3, low / 2, low - 2, low - 1,
		low, low + 1, 2*low - 1, 2 * low, 3*low + low/2,
		k.power(-k.precision - 1), k.power(-1) - 1, k.power(-1), one - 1,
		one, one + 1, one + 3, one + low/2, k.power(1) - 1, k.power(1), k.power(1) + low/2,
		k.power(k.precision-1) + 1, k.power(k.precision) - 1, k.power(k.precision), k.power(k.precision) + 1,
		k.power(k.limit/2) - 1, k.power(k.limit / 2),
		k.power(k.limit - 1), k.inf - 2, k.inf - 1,
	}
}

// signed is the words and those with the other sign.
func (k table) signed(words []uint64) []uint64 {
	list := slices.Clone(words)
	for _, w := range words {
		list = append(list, w|k.sign)
	}
	return list
}

// nans is NaNs of both signs, canonical or not.
func (k table) nans() []uint64 {
	return k.signed([]uint64{k.nan, k.nan + 1, k.inf + 1, k.inf + 2, k.nan - 1, k.sign - 1})
}

// float is the word's float, as the library has it; each of F32 is one of F64 too.
func (k table) float(w uint64) float64 {
	if k.f == api.F32 {
		return float64(math.Float32frombits(uint32(w)))
	}
	return math.Float64frombits(w)
}

// bitsOf is the word of a float that the format has.
func (k table) bitsOf(x float64) uint64 {
	if k.f == api.F32 {
		return uint64(math.Float32bits(float32(x)))
	}
	return math.Float64bits(x)
}

// tell fails the test, if the call does not answer the word and the flags, without an error.
func (c call) tell(t *testing.T, k table, m api.Mode, want uint64, flags api.Flags, x ...uint64) {
	t.Helper()
	w, got, e := c.of(k.f, m, x...)
	if w != want || got != flags || e != api.OK {
		t.Fatalf("%s, format %d, mode %d, of %x: %x flags %d error %d, not %x flags %d", c.name, k.f, m, x, w, got, e, want, flags)
	}
}

// refuse fails the test, if the call does not answer the error and zeros beside it.
func (c call) refuse(t *testing.T, f api.Format, m api.Mode, want api.Errno, x ...uint64) {
	t.Helper()
	w, flags, e := c.of(f, m, x...)
	if w != 0 || flags != 0 || e != want {
		t.Fatalf("%s, format %d, mode %d, of %x: %x flags %d error %d, not error %d", c.name, f, m, x, w, flags, e, want)
	}
}
