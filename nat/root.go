package nat

import (
	"math/bits"

	"cutplane/api"
)

// Root is the greatest number whose square is not above a, and whether its square is a.
func Root(a []uint32) ([]uint32, bool, api.Errno) {
	if !May(a) {
		return nil, false, api.ErrArg
	}
	if len(a) == 0 {
		return nil, true, api.OK
	}
	r := nearRoot(a)
	// Being one too great at most, and never when a is a square, r is mended at once.
	at := compare(product(r, r), a)
	if at > 0 {
		r = difference(r, Of(1))
	}
	return r, at == 0, api.OK
}

// nearRoot is a root of a, which is not nought, one too great at most: (r-1)^2 < a < (r+1)^2.
//
// Each step is one of Newton's, on as much of a as it can settle: it doubles the bits of the root that are known, and keeps this very bound for that piece of a. So all steps together cost little more than the last one.
func nearRoot(a []uint32) []uint32 {
	half := (Len(a) - 1) / 2
	steps := bits.Len(uint(half))
	r := Of(1)
	known := 0
	for i := range steps {
		before := known
		known = half >> (steps - 1 - i)
		piece := shiftDown(a, 2*half-before-known+1)
		q, _ := divide(piece, r)
		r = sum(shiftUp(r, known-before-1), q)
	}
	return r
}

// Power is base to the n.
func Power(base uint32, n int) ([]uint32, api.Errno) {
	switch {
	case n < 0:
		return nil, api.ErrArg
	case n == 0:
		return Of(1), api.OK
	case base < 2:
		return Of(uint64(base)), api.OK
	case n >= maxBits:
		return nil, api.ErrLong
	}
	return raise(Of(uint64(base)), n)
}

// raise goes over the bits of n from the highest on. What is reckoned on the way is a power with a lesser n: is it too long, so is the answer.
func raise(base []uint32, n int) ([]uint32, api.Errno) {
	p := Of(1)
	size := bits.Len(uint(n))
	for i := range size {
		square, e := Mul(p, p)
		if e != api.OK {
			return nil, e
		}
		p = square
		if n>>(size-1-i)&1 == 0 {
			continue
		}
		p, e = Mul(p, base)
		if e != api.OK {
			return nil, e
		}
	}
	return p, api.OK
}
