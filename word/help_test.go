package word_test

import (
	"math"
	"math/big"
	"slices"
	"testing"

	"cutplane/api"
)

const (
	greatInt  = 1<<63 - 1
	leastInt  = -1 << 63
	fullWord  = 1<<64 - 1
	thrown    = 4000 // words a test takes beside the edges
	firstDice = 0x9E3779B97F4A7C15
)

// table is the chapter's table of a format, written out here by itself.
type table struct {
	f                               api.Format
	bits, frac, field, least, limit int
	sign, none, inf, full           uint64
}

func tables() []table {
	return []table{
		{api.F32, 32, 23, 255, -149, 128, 0x80000000, 0x7FC00000, 0x7F800000, 0xFFFFFFFF},
		{api.F64, 64, 52, 2047, -1074, 1024, 0x8000000000000000, 0x7FF8000000000000, 0x7FF0000000000000, fullWord},
	}
}

// noFormats is all formats that are none of both.
func noFormats() []api.Format {
	var list []api.Format
	for i := range 256 {
		if f := api.Format(i); f != api.F32 && f != api.F64 {
			list = append(list, f)
		}
	}
	return list
}

// noWords is numbers that F32 has not as words.
func noWords() []uint64 {
	return []uint64{1 << 32, 1<<32 + 1, 1<<32 | 0x3F800000, 1<<32 | 0x7FC00000, 1 << 33, 1 << 63, 1<<63 | 1, 0x3FF0000000000000, 0x7FF8000000000000, fullWord}
}

// dice is a row of numbers that look thrown, the same at each run.
type dice uint64

func (d *dice) next() uint64 {
	*d ^= *d << 13
	*d ^= *d >> 7
	*d ^= *d << 17
	return uint64(*d)
}

func (d *dice) below(n int) int { return int(d.next() % uint64(n)) }

// fracs is fractions at which something changes.
func (k table) fracs() []uint64 {
	full := uint64(1)<<k.frac - 1
	half := uint64(1) << (k.frac - 1)
	return []uint64{0, 1, 2, 3, half - 1, half, half + 1, full - 2, full - 1, full}
}

// words is words of each field with edge fractions and either sign, and thrown ones.
func (k table) words() []uint64 {
	var list []uint64
	for field := range k.field + 1 {
		for _, frac := range k.fracs() {
			w := uint64(field)<<k.frac | frac
			list = append(list, w, w|k.sign)
		}
	}
	d := dice(firstDice)
	for range thrown {
		list = append(list, d.next()&k.full)
	}
	return list
}

// float is the word's float, as the library has it; each of F32 is one of F64 too.
func (k table) float(w uint64) float64 {
	if k.f == api.F32 {
		return float64(math.Float32frombits(uint32(w)))
	}
	return math.Float64frombits(w)
}

// bitsOf is the word of a float that the format has.
func (k table) bitsOf(x float64) uint64 {
	if k.f == api.F32 {
		return uint64(math.Float32bits(float32(x)))
	}
	return math.Float64bits(x)
}

func finite(x float64) bool { return !math.IsNaN(x) && !math.IsInf(x, 0) }

// toBig is the natural number's value, as the library has it.
func toBig(mag []uint32) *big.Int {
	n := new(big.Int)
	for _, d := range slices.Backward(mag) {
		n.Lsh(n, 32)
		n.Or(n, big.NewInt(int64(d)))
	}
	return n
}

// form is n times 2^exp in its one form.
func form(n *big.Int, exp int) api.Dyad {
	if n.Sign() == 0 {
		return api.Dyad{}
	}
	low := n.TrailingZeroBits()
	rest := new(big.Int).Rsh(new(big.Int).Abs(n), low)
	var mag []uint32
	for rest.Sign() > 0 {
		mag = append(mag, uint32(new(big.Int).And(rest, big.NewInt(math.MaxUint32)).Uint64()))
		rest.Rsh(rest, 32)
	}
	return api.Dyad{Neg: n.Sign() < 0, Mag: mag, Exp: exp + int(low)}
}

// num is n times 2^exp.
func num(n int64, exp int) api.Dyad { return form(big.NewInt(n), exp) }

// ones is 2^n - 1 times 2^exp.
func ones(n, exp int) api.Dyad {
	one := big.NewInt(1)
	return form(new(big.Int).Sub(new(big.Int).Lsh(one, uint(n)), one), exp)
}

// minus is d with the other sign, d being above nought.
func minus(d api.Dyad) api.Dyad {
	d.Neg = true
	return d
}

// dyadOf is a finite float's value.
func dyadOf(x float64) api.Dyad {
	part, exp := math.Frexp(x)
	return form(big.NewInt(int64(part*(1<<53))), exp-53)
}

// wrongDyads is dyadic numbers that may not be.
func wrongDyads() []api.Dyad {
	return []api.Dyad{
		{Mag: []uint32{2}},
		{Mag: []uint32{0, 1}},
		{Mag: []uint32{0}},
		{Mag: []uint32{1, 0}},
		{Neg: true},
		{Neg: true, Mag: []uint32{}},
		{Exp: 1},
		{Exp: -1},
		{Exp: -149},
		{Mag: []uint32{1}, Exp: api.MaxExp + 1},
		{Mag: []uint32{1}, Exp: -api.MaxExp - 1},
		{Mag: []uint32{1}, Exp: greatInt},
		{Mag: []uint32{1}, Exp: leastInt},
		{Mag: slices.Repeat([]uint32{1}, api.MaxDigits+1)},
		{Neg: true, Mag: []uint32{4}, Exp: -3},
		{Mag: []uint32{2}, Exp: 5000},
	}
}

func sameDyad(a, b api.Dyad) bool {
	return a.Neg == b.Neg && a.Exp == b.Exp && slices.Equal(a.Mag, b.Mag)
}

// tellDyad fails the test, if a call did not answer the number, or the error and nothing beside it.
func tellDyad(t *testing.T, what string, w uint64, got api.Dyad, e api.Errno, want api.Dyad, wantE api.Errno) {
	t.Helper()
	if e != wantE || !sameDyad(got, want) {
		t.Fatalf("%s of %x: %v error %d, not %v error %d", what, w, got, e, want, wantE)
	}
}

// tellWord is tellDyad for calls that answer a word.
func tellWord(t *testing.T, what string, w, got uint64, e api.Errno, want uint64, wantE api.Errno) {
	t.Helper()
	if e != wantE || got != want {
		t.Fatalf("%s of %x: %x error %d, not %x error %d", what, w, got, e, want, wantE)
	}
}
