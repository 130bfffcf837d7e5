package round_test

import (
	"math"
	"math/big"
	"slices"
	"testing"

	"cutplane/api"
)

const (
	greatInt  = 1<<63 - 1
	leastInt  = -1 << 63
	bothOver  = api.Overflow | api.Inexact
	bothUnder = api.Underflow | api.Inexact
)

// table is what the chapter on words says of a format, written out here by itself.
type table struct {
	f                       api.Format
	precision, least, limit int
	sign, inf               uint64
}

func tables() []table {
	return []table{
		{api.F32, 24, -149, 128, 0x80000000, 0x7F800000},
		{api.F64, 53, -1074, 1024, 0x8000000000000000, 0x7FF0000000000000},
	}
}

func modes() []api.Mode {
	return []api.Mode{api.ToEven, api.ToAway, api.ToZero, api.ToUp, api.ToDown}
}

// mirror is the mode that does below nought what m does above it.
func mirror(m api.Mode) api.Mode {
	switch m {
	case api.ToUp:
		return api.ToDown
	case api.ToDown:
		return api.ToUp
	}
	return m
}

func noFormats() []api.Format { return []api.Format{0, 3, 4, 32, 64, 128, 255} }

func noModes() []api.Mode { return []api.Mode{0, 6, 7, 64, 128, 255} }

// dice is a row of numbers that look thrown, the same at each run.
type dice uint64

func (d *dice) next() uint64 {
	*d ^= *d << 13
	*d ^= *d >> 7
	*d ^= *d << 17
	return uint64(*d)
}

func (d *dice) below(n int) int { return int(d.next() % uint64(n)) }

// wide is a number of up to so many bits, above nought, often with long runs of one bit.
func (d *dice) wide(most int) *big.Int {
	n := new(big.Int)
	for n.Sign() == 0 {
		for size := 1 + d.below(most); size > 0; {
			run := 1 + d.below(min(size, 70))
			n.Lsh(n, uint(run))
			switch d.below(3) {
			case 0:
				n.Or(n, less(pow(run), 1))
			case 1:
				part := new(big.Int).SetUint64(d.next())
				n.Or(n, part.And(part, less(pow(run), 1)))
			}
			size -= run
		}
	}
	return n
}

// word is a finite word above nought.
func (k table) word(d *dice) uint64 { return 1 + d.next()%(k.inf-1) }

// float is the word's float, as the library has it; each of F32 is one of F64 too.
func (k table) float(w uint64) float64 {
	if k.f == api.F32 {
		return float64(math.Float32frombits(uint32(w)))
	}
	return math.Float64frombits(w)
}

// bitsOf is the word of a float that the format has.
func (k table) bitsOf(x float64) uint64 {
	if k.f == api.F32 {
		return uint64(math.Float32bits(float32(x)))
	}
	return math.Float64bits(x)
}

// words is finite words above nought: the ends of each field, and thrown ones.
func (k table) words() []uint64 {
	var list []uint64
	step := uint64(1) << (k.precision - 1)
	for w := uint64(0); w < k.inf; w += step {
		list = append(list, w+1, w+2, w+step/2, w+step-2, w+step-1)
		if w > 0 {
			list = append(list, w)
		}
	}
	d := dice(77)
	for range 2000 {
		list = append(list, k.word(&d))
	}
	return list
}

func pow(n int) *big.Int { return new(big.Int).Lsh(big.NewInt(1), uint(n)) }

func plus(a *big.Int, n int64) *big.Int { return new(big.Int).Add(a, big.NewInt(n)) }

func less(a *big.Int, n int64) *big.Int { return plus(a, -n) }

// form is n times 2^exp in its one form.
func form(n *big.Int, exp int) api.Dyad {
	if n.Sign() == 0 {
		return api.Dyad{}
	}
	low := n.TrailingZeroBits()
	rest := new(big.Int).Rsh(new(big.Int).Abs(n), low)
	var mag []uint32
	for _, w := range rest.Bits() {
		mag = append(mag, uint32(w), uint32(w>>32))
	}
	if mag[len(mag)-1] == 0 {
		mag = mag[:len(mag)-1]
	}
	return api.Dyad{Neg: n.Sign() < 0, Mag: mag, Exp: exp + int(low)}
}

// num is n times 2^exp.
func num(n int64, exp int) api.Dyad { return form(big.NewInt(n), exp) }

// toBig is the magnitude, as the library has it.
func toBig(d api.Dyad) *big.Int {
	n := new(big.Int)
	for _, digit := range slices.Backward(d.Mag) {
		n.Lsh(n, 32)
		n.Or(n, big.NewInt(int64(digit)))
	}
	return n
}

// minus is d with the other sign.
func minus(d api.Dyad) api.Dyad {
	d.Neg = len(d.Mag) > 0 && !d.Neg
	return d
}

// dyadOf is a finite float's value.
func dyadOf(x float64) api.Dyad {
	part, exp := math.Frexp(x)
	return form(big.NewInt(int64(part*(1<<53))), exp-53)
}

// wrongDyads is dyadic numbers that may not be.
func wrongDyads() []api.Dyad {
	return []api.Dyad{
		{Mag: []uint32{2}},
		{Mag: []uint32{0, 1}},
		{Mag: []uint32{0}},
		{Mag: []uint32{1, 0}},
		{Neg: true},
		{Neg: true, Mag: []uint32{}},
		{Exp: 1},
		{Exp: -1},
		{Mag: []uint32{1}, Exp: api.MaxExp + 1},
		{Mag: []uint32{1}, Exp: -api.MaxExp - 1},
		{Mag: []uint32{1}, Exp: greatInt},
		{Mag: []uint32{1}, Exp: leastInt},
		{Mag: slices.Repeat([]uint32{1}, api.MaxDigits+1)},
		{Neg: true, Mag: []uint32{4}, Exp: -3},
		{Neg: true, Mag: []uint32{1}, Exp: api.MaxExp + 1},
	}
}

// tell fails the test, if a call did not answer the word and the flags, without an error.
func tell(t *testing.T, what string, k table, m api.Mode, x any, w uint64, flags api.Flags, e api.Errno, wantW uint64, wantFlags api.Flags) {
	t.Helper()
	if w != wantW || flags != wantFlags || e != api.OK {
		t.Fatalf("%s, format %d, mode %d, of %v: %x flags %d error %d, not %x flags %d", what, k.f, m, x, w, flags, e, wantW, wantFlags)
	}
}

// refused fails the test, if a call did not answer the error and zeros beside it.
func refused(t *testing.T, what string, w uint64, flags api.Flags, e, want api.Errno) {
	t.Helper()
	if w != 0 || flags != 0 || e != want {
		t.Fatalf("%s: %x flags %d error %d, not error %d", what, w, flags, e, want)
	}
}
