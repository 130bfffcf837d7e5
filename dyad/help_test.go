package dyad_test

import (
	"math/big"
	"slices"
	"testing"

	"cutplane/api"
)

const (
	top      = 1<<32 - 1
	far      = api.MaxExp
	longest  = api.MaxDigits * 32
	greatInt = 1<<63 - 1
	leastInt = -1 << 63
)

// dice is a row of numbers that look thrown, the same at each run.
type dice uint64

func (d *dice) next() uint64 {
	*d ^= *d << 13
	*d ^= *d >> 7
	*d ^= *d << 17
	return uint64(*d)
}

func (d *dice) below(n int) int { return int(d.next() % uint64(n)) }

// number has up to so many digits, and an Exp within reach of 0.
func (d *dice) number(digits, reach int) api.Dyad {
	edge := []uint32{0, 1, 1 << 31, top, top - 1, 3}
	mag := make([]uint32, d.below(digits+1))
	for i := range mag {
		mag[i] = uint32(d.next())
		if d.below(2) == 0 {
			mag[i] = edge[d.below(len(edge))]
		}
	}
	n := toBig(mag)
	if d.below(2) == 0 {
		n.Neg(n)
	}
	return form(n, d.below(2*reach+1)-reach)
}

// toBig is the natural number's value, as the library has it.
func toBig(mag []uint32) *big.Int {
	b := make([]byte, 0, 4*len(mag))
	for _, d := range slices.Backward(mag) {
		b = append(b, byte(d>>24), byte(d>>16), byte(d>>8), byte(d))
	}
	return new(big.Int).SetBytes(b)
}

// digits is the value's natural number.
func digits(n *big.Int) []uint32 {
	var a []uint32
	bytes := new(big.Int).Abs(n).Bytes()
	slices.Reverse(bytes)
	for i, b := range bytes {
		if i%4 == 0 {
			a = append(a, 0)
		}
		a[i/4] |= uint32(b) << (i % 4 * 8)
	}
	return a
}

// form is n times 2^exp in its one form, within the bounds or not.
func form(n *big.Int, exp int) api.Dyad {
	if n.Sign() == 0 {
		return api.Dyad{}
	}
	low := n.TrailingZeroBits()
	odd := new(big.Int).Rsh(new(big.Int).Abs(n), low)
	return api.Dyad{Neg: n.Sign() < 0, Mag: digits(odd), Exp: exp + int(low)}
}

// units is d in units of 2^exp, which must not be above its Exp.
func units(d api.Dyad, exp int) *big.Int {
	n := toBig(d.Mag)
	if n.Sign() == 0 {
		return n
	}
	n.Lsh(n, uint(d.Exp-exp))
	if d.Neg {
		n.Neg(n)
	}
	return n
}

// num is n times 2^exp.
func num(n int64, exp int) api.Dyad { return form(big.NewInt(n), exp) }

// ones is 2^n - 1.
func ones(n int) api.Dyad { return form(minusOne(n), 0) }

func minusOne(n int) *big.Int { return new(big.Int).Sub(power(n), big.NewInt(1)) }

func power(n int) *big.Int { return new(big.Int).Lsh(big.NewInt(1), uint(n)) }

// wrong is dyadic numbers that may not be.
func wrong() []api.Dyad {
	long := slices.Repeat([]uint32{1}, api.MaxDigits+1)
	return []api.Dyad{
		{Mag: []uint32{2}},
		{Mag: []uint32{0, 1}},
		{Mag: []uint32{0}},
		{Mag: []uint32{1, 0}},
		{Mag: []uint32{1, 2, 0}},
		{Neg: true},
		{Neg: true, Mag: []uint32{}},
		{Exp: 1},
		{Exp: -1},
		{Neg: true, Exp: 5},
		{Mag: []uint32{1}, Exp: far + 1},
		{Mag: []uint32{1}, Exp: -far - 1},
		{Mag: []uint32{1}, Exp: greatInt},
		{Mag: []uint32{1}, Exp: leastInt},
		{Mag: long},
		{Mag: append(slices.Repeat([]uint32{1}, api.MaxDigits-1), 0)},
		{Neg: true, Mag: []uint32{4}, Exp: -3},
	}
}

// edges is numbers at which something changes.
func edges() []api.Dyad {
	return []api.Dyad{
		{}, {Mag: []uint32{}},
		num(1, 0), num(-1, 0), num(1, 1), num(-1, -1), num(3, 0), num(-3, -1), num(7, -2),
		num(1, 31), num(1, 32), num(-1, 63), num(1, 63), num(1, 64), num(top, 0), num(top, 32), num(-top, -33),
		num(1, far), num(-1, far), num(1, -far), num(-1, -far), num(5, far), num(-5, -far),
		ones(longest), form(power(longest-1), 1), form(minusOne(longest), far), form(minusOne(longest), -far),
		form(new(big.Int).Neg(minusOne(longest)), -longest), form(minusOne(longest-1), 1),
	}
}

// same tells whether two dyadic numbers are one, field by field.
func same(a, b api.Dyad) bool {
	return a.Neg == b.Neg && a.Exp == b.Exp && slices.Equal(a.Mag, b.Mag)
}

// tell fails the test, if a call did not answer the number and the error that are wanted.
func tell(t *testing.T, what string, got api.Dyad, e api.Errno, want api.Dyad, wantE api.Errno) {
	t.Helper()
	if e != wantE {
		t.Fatalf("%s: error %d, not %d", what, e, wantE)
	}
	if wantE != api.OK {
		want = api.Dyad{}
	}
	if !same(got, want) {
		t.Fatalf("%s: %s, not %s", what, show(got), show(want))
	}
}

// tellCut is tell for the calls that also answer whether something was lost.
func tellCut(t *testing.T, what string, got api.Dyad, lost bool, e api.Errno, want api.Dyad, wantLost bool, wantE api.Errno) {
	t.Helper()
	tell(t, what, got, e, want, wantE)
	if lost != (wantLost && wantE == api.OK) {
		t.Fatalf("%s: lost %v, not %v", what, lost, wantLost)
	}
}

func show(d api.Dyad) string {
	n := toBig(d.Mag)
	if d.Neg {
		n.Neg(n)
	}
	s := n.Text(16)
	return s[:min(len(s), 60)] + " p " + big.NewInt(int64(d.Exp)).String()
}
