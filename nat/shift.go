package nat

import "cutplane/api"

// Shift is a times 2^n, without what falls off below, and whether a bit that is 1 fell off.
func Shift(a []uint32, n int) ([]uint32, bool, api.Errno) {
	if !May(a) {
		return nil, false, api.ErrArg
	}
	// The bounds are asked ahead of all reckoning with n: it may be any int, and -n need not be one.
	size := Len(a)
	switch {
	case size == 0:
		return nil, false, api.OK
	case n > maxBits-size:
		return nil, false, api.ErrLong
	case n >= 0:
		return shiftUp(a, n), false, api.OK
	case n <= -size:
		return nil, true, api.OK
	}
	return shiftDown(a, -n), Low(a) < -n, api.OK
}

// shiftUp is a times 2^n, n being from 0 on.
func shiftUp(a []uint32, n int) []uint32 {
	whole, part := n/digitBits, n%digitBits
	s := make([]uint32, len(a)+whole+1)
	for i, d := range a {
		t := uint64(d) << part
		s[whole+i] |= uint32(t)
		s[whole+i+1] = uint32(t >> digitBits)
	}
	return trim(s)
}

// shiftDown is a without its n lowest bits, n being from 0 on and less than a's digits have; noughts may stand above a's highest digit.
func shiftDown(a []uint32, n int) []uint32 {
	whole, part := n/digitBits, n%digitBits
	s := make([]uint32, len(a)-whole)
	above := uint64(0)
	for i := range len(s) {
		at := len(s) - 1 - i
		t := above<<digitBits | uint64(a[whole+at])
		s[at] = uint32(t >> part)
		above = t & digitMask
	}
	return trim(s)
}
