package rank_test

import (
	"math"
	"math/big"
	"slices"
	"testing"

	"cutplane/api"
)

// table is what the chapter on words says of a format, written out here by itself; low is the least normal word, one is the word of 1.
type table struct {
	f                              api.Format
	low, one, inf, nan, sign, full uint64
}

func table32() table {
	return table{api.F32, 0x00800000, 0x3F800000, 0x7F800000, 0x7FC00000, 0x80000000, 0xFFFFFFFF}
}

func table64() table {
	return table{api.F64, 0x0010000000000000, 0x3FF0000000000000, 0x7FF0000000000000, 0x7FF8000000000000, 0x8000000000000000, 0xFFFFFFFFFFFFFFFF}
}

func tables() []table { return []table{table32(), table64()} }

// dice is a row of numbers that look thrown, the same at each run.
type dice uint64

func (d *dice) next() uint64 {
	*d ^= *d << 13
	*d ^= *d >> 7
	*d ^= *d << 17
	return uint64(*d)
}

func (d *dice) below(n int) int { return int(d.next() % uint64(n)) }

// thrown is any word; one in four is a nought, a NaN, infinite, or near to them.
func (k table) thrown(d *dice) uint64 {
	w := d.next() & k.full
	if d.below(4) > 0 {
		return w
	}
	near := []uint64{0, k.low, k.one, k.inf, k.nan}[d.below(5)]
	return (near + d.next()%5) | w&k.sign
}

// sizes is words above nought of each class, rising, about the ends of the classes.
func (k table) sizes() []uint64 {
	return []uint64{
		1, 2, 3, k.low / 2, k.low - 2, k.low - 1, k.low, k.low + 1, 2*k.low - 1, 2 * k.low,
		k.one - 1, k.one, k.one + 1, k.one + k.low/2, k.one + k.low, k.one + 2*k.low - 1,
		k.inf - k.low, k.inf - 2, k.inf - 1, k.inf,
	}
}

// ladder is words that are no NaN, lowest first in the total order.
func (k table) ladder() []uint64 {
	var list []uint64
	for _, w := range slices.Backward(k.sizes()) {
		list = append(list, w|k.sign)
	}
	list = append(list, k.sign, 0)
	return append(list, k.sizes()...)
}

// nans is NaNs of both signs, canonical or not, the first and the last one among them.
func (k table) nans() []uint64 {
	var list []uint64
	for _, w := range []uint64{k.nan, k.nan + 1, k.inf + 1, k.inf + 2, k.nan - 1, k.sign - 2, k.sign - 1} {
		list = append(list, w, w|k.sign)
	}
	return list
}

// every is words of each kind.
func (k table) every() []uint64 { return append(k.ladder(), k.nans()...) }

func (k table) isNaN(w uint64) bool { return w%k.sign > k.inf }

// canon is the word itself, and the canonical NaN of a NaN.
func (k table) canon(w uint64) uint64 {
	if k.isNaN(w) {
		return k.nan
	}
	return w
}

// float is the word's float, as the library has it; each of F32 is one of F64 too.
func (k table) float(w uint64) float64 {
	if k.f == api.F32 {
		return float64(math.Float32frombits(uint32(w)))
	}
	return math.Float64frombits(w)
}

// bitsOf is the word of a float that the format has.
func (k table) bitsOf(x float64) uint64 {
	if k.f == api.F32 {
		return uint64(math.Float32bits(float32(x)))
	}
	return math.Float64bits(x)
}

// next is the library's neighbour of a word towards an end.
func (k table) next(w uint64, end float64) uint64 {
	if k.f == api.F32 {
		return uint64(math.Float32bits(math.Nextafter32(math.Float32frombits(uint32(w)), float32(end))))
	}
	return math.Float64bits(math.Nextafter(math.Float64frombits(w), end))
}

// place is the place of a word that is no NaN, as a whole number without ends.
func (k table) place(w uint64) *big.Int {
	p := new(big.Int).SetUint64(w % k.sign)
	if w >= k.sign {
		p.Neg(p)
	}
	return p
}

// answer is what a call answers: a number and an error.
type answer struct {
	n   uint64
	err api.Errno
}

func got(w uint64, e api.Errno) answer { return answer{w, e} }

func gotOrder(o api.Order, e api.Errno) answer { return answer{uint64(o), e} }

func gotSign(n int, e api.Errno) answer { return answer{uint64(n), e} }

// is fails the test, if not that number was answered, without an error; x is what the call was handed.
func (a answer) is(t *testing.T, want uint64, name string, k table, x ...uint64) {
	t.Helper()
	if a != (answer{n: want}) {
		t.Fatalf("%s, format %d, of %x: %x error %d, not %x", name, k.f, x, a.n, a.err, want)
	}
}

// refused fails the test, if not the error was answered, and 0 beside it.
func (a answer) refused(t *testing.T, e api.Errno, name string, x ...uint64) {
	t.Helper()
	if a != (answer{err: e}) {
		t.Fatalf("%s of %x: %x error %d, not error %d", name, x, a.n, a.err, e)
	}
}
