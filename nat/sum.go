package nat

import (
	"math/bits"

	"cutplane/api"
)

// Add is a and b together.
func Add(a, b []uint32) ([]uint32, api.Errno) {
	if !allMay(a, b) {
		return nil, api.ErrArg
	}
	return notLong(sum(a, b))
}

// Sub is a less b.
func Sub(a, b []uint32) ([]uint32, api.Errno) {
	if !allMay(a, b) {
		return nil, api.ErrArg
	}
	if compare(a, b) < 0 {
		return nil, api.ErrLess
	}
	return difference(a, b), api.OK
}

// Mul is a times b.
func Mul(a, b []uint32) ([]uint32, api.Errno) {
	if !allMay(a, b) {
		return nil, api.ErrArg
	}
	// A product has as many digits as both together, or one less: mostly a long one need not be reckoned to be told.
	if len(a)+len(b) > api.MaxDigits+1 {
		return nil, api.ErrLong
	}
	return notLong(product(a, b))
}

// notLong answers a, unless it has too many digits.
func notLong(a []uint32) ([]uint32, api.Errno) {
	if len(a) > api.MaxDigits {
		return nil, api.ErrLong
	}
	return a, api.OK
}

func sum(a, b []uint32) []uint32 {
	if len(a) < len(b) {
		a, b = b, a
	}
	s := make([]uint32, len(a)+1)
	copy(s, a)
	carry := uint32(0)
	for i, d := range b {
		s[i], carry = bits.Add32(s[i], d, carry)
	}
	for i := len(b); carry != 0; i++ {
		s[i], carry = bits.Add32(s[i], 0, carry)
	}
	return trim(s)
}

// difference is a less b, which is not above a.
func difference(a, b []uint32) []uint32 {
	s := make([]uint32, len(a))
	copy(s, a)
	borrow := uint32(0)
	for i, d := range b {
		s[i], borrow = bits.Sub32(s[i], d, borrow)
	}
	for i := len(b); borrow != 0; i++ {
		s[i], borrow = bits.Sub32(s[i], 0, borrow)
	}
	return trim(s)
}

func product(a, b []uint32) []uint32 {
	p := make([]uint32, len(a)+len(b))
	for i, d := range a {
		p[i+len(b)] = addTimes(p[i:i+len(b)], b, d)
	}
	return trim(p)
}

// addTimes adds d times b to p, which is as long as b, in its place, and tells the digit that goes beyond.
func addTimes(p, b []uint32, d uint32) uint32 {
	p = p[:len(b)]
	carry := uint64(0)
	for i, x := range b {
		// At most (2^32-1)^2 + 2 (2^32-1), which is 2^64 - 1.
		t := uint64(x)*uint64(d) + uint64(p[i]) + carry
		p[i] = uint32(t)
		carry = t >> digitBits
	}
	return uint32(carry)
}
