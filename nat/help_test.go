package nat_test

import (
	"math/big"
	"slices"
	"testing"

	"cutplane/api"
)

// dice is a row of numbers that look thrown, the same at each run.
type dice uint64

func (d *dice) next() uint64 {
	*d ^= *d << 13
	*d ^= *d >> 7
	*d ^= *d << 17
	return uint64(*d)
}

func (d *dice) below(n int) int { return int(d.next() % uint64(n)) }

// digit is often one of those at which carries and guesses go wrong.
func (d *dice) digit() uint32 {
	odd := []uint32{0, 0, 1, 1<<31 - 1, 1 << 31, 1<<31 + 1, 1<<32 - 2, 1<<32 - 1, 1<<32 - 1}
	if d.below(2) == 0 {
		return odd[d.below(len(odd))]
	}
	return uint32(d.next())
}

// number has n digits.
func (d *dice) number(n int) []uint32 {
	a := make([]uint32, n)
	for i := range a {
		a[i] = d.digit()
	}
	for n > 0 && a[n-1] == 0 {
		a[n-1] = d.digit()
	}
	return a
}

// toBig is the number's value, as the library has it.
func toBig(a []uint32) *big.Int {
	b := make([]byte, 0, 4*len(a))
	for _, d := range slices.Backward(a) {
		b = append(b, byte(d>>24), byte(d>>16), byte(d>>8), byte(d))
	}
	return new(big.Int).SetBytes(b)
}

// fromBig is the value's number.
func fromBig(n *big.Int) []uint32 {
	var a []uint32
	mask := big.NewInt(1<<32 - 1)
	for n = new(big.Int).Set(n); n.Sign() > 0; n.Rsh(n, 32) {
		a = append(a, uint32(new(big.Int).And(n, mask).Uint64()))
	}
	return a
}

// all has n digits, each d.
func all(n int, d uint32) []uint32 {
	return slices.Repeat([]uint32{d}, n)
}

// one has n digits: noughts, and 1 as the highest.
func one(n int) []uint32 {
	a := make([]uint32, n)
	a[n-1] = 1
	return a
}

const top = 1<<32 - 1

// greatest is the greatest number that may be.
func greatest() []uint32 { return all(api.MaxDigits, top) }

// wrong is lists that may not be numbers.
func wrong() [][]uint32 {
	return [][]uint32{{0}, {1, 0}, {0, 0}, {5, 6, 0}, all(api.MaxDigits+1, 1), all(api.MaxDigits, 0), all(3*api.MaxDigits, 0), append(all(api.MaxDigits-1, 7), 0)}
}

// edges is numbers at which something changes.
func edges() [][]uint32 {
	return [][]uint32{nil, {}, {1}, {2}, {3}, {1<<31 - 1}, {1 << 31}, {top}, {0, 1}, {1, 1}, {top, top}, {0, 1 << 31}, {0, 0, 1}, {top, 0, top}, {0, 0, 0, 1}}
}

// tell fails the test, if a call did not answer the number and the error that are wanted.
func tell(t *testing.T, what string, got []uint32, e api.Errno, want []uint32, wantE api.Errno) {
	t.Helper()
	if e != wantE {
		t.Fatalf("%s: error %d, not %d", what, e, wantE)
	}
	if !slices.Equal(got, want) {
		t.Fatalf("%s: %d digits %x.., not %d digits %x..", what, len(got), head(got), len(want), head(want))
	}
}

func head(a []uint32) []uint32 { return a[:min(len(a), 8)] }
