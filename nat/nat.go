// Package nat is layer 1: natural numbers as lists of digits to the base 2^32, the lowest digit first (see shared/doc/01-nat.md).
//
// The exported functions look whether what they are handed may be, and whether what they answer is not too long; the inner ones reckon without bounds, and answer new memory unless they say otherwise.
package nat

import (
	"cmp"
	"math/bits"

	"cutplane/api"
)

const (
	digitBits = 32
	digitMask = 1<<digitBits - 1
	maxBits   = api.MaxDigits * digitBits
)

// May tells whether a may be a number.
func May(a []uint32) bool {
	n := len(a)
	return n == 0 || n <= api.MaxDigits && a[n-1] != 0
}

// allMay tells whether each of the lists may be a number.
func allMay(lists ...[]uint32) bool {
	for _, a := range lists {
		if !May(a) {
			return false
		}
	}
	return true
}

// Of is the number n.
func Of(n uint64) []uint32 {
	return trim([]uint32{uint32(n), uint32(n >> digitBits)})
}

// Num is the value of a, if that is a number below 2^64.
func Num(a []uint32) (uint64, bool) {
	if !May(a) || len(a) > 2 {
		return 0, false
	}
	n := uint64(0)
	for i, d := range a {
		n |= uint64(d) << (i * digitBits)
	}
	return n, true
}

// Cmp is -1, 0 or 1, as a is below b, the same, above it.
func Cmp(a, b []uint32) (int, api.Errno) {
	if !allMay(a, b) {
		return 0, api.ErrArg
	}
	return compare(a, b), api.OK
}

// Len is how many bits a has.
func Len(a []uint32) int {
	if !May(a) || len(a) == 0 {
		return 0
	}
	top := len(a) - 1
	return top*digitBits + bits.Len32(a[top])
}

// Low is how many noughts stand below the lowest bit of a that is 1.
func Low(a []uint32) int {
	if !May(a) {
		return 0
	}
	for i, d := range a {
		if d != 0 {
			return i*digitBits + bits.TrailingZeros32(d)
		}
	}
	return 0
}

// trim leaves out the noughts above the highest digit that is none; it answers a piece of a itself.
func trim(a []uint32) []uint32 {
	n := len(a)
	for n > 0 && a[n-1] == 0 {
		n--
	}
	return a[:n]
}

// compare goes down from the highest digits, since the first ones that differ settle it.
func compare(a, b []uint32) int {
	if len(a) != len(b) {
		return cmp.Compare(len(a), len(b))
	}
	for i := range len(a) {
		at := len(a) - 1 - i
		if a[at] != b[at] {
			return cmp.Compare(a[at], b[at])
		}
	}
	return 0
}
