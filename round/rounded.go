package round

import (
	"math/bits"

	"cutplane/api"
	"cutplane/dyad"
	"cutplane/nat"
	"cutplane/word"
)

// outward tells whether of two neighbours the one that is greater in size is taken; odd tells of the other one whether it is an odd multiple of the unit.
func (w way) outward(neg, odd bool, at place) bool {
	switch w.mode {
	case api.ToEven:
		if at == onHalf {
			return odd
		}
		fallthrough
	case api.ToAway:
		return at >= onHalf
	case api.ToUp:
		return !neg
	case api.ToDown:
		return neg
	}
	return false
}

// taken is how many units of 2^unit the neighbour that is taken has in size, and whether that is the number itself.
func (w way) taken(s seen, unit int) (uint64, bool) {
	near, at := s.between(unit)
	if at == onNear {
		return near, true
	}
	if w.outward(s.neg, near%2 == 1, at) {
		return near + 1, false
	}
	return near, false
}

// rounded is the word to which a number that is not nought is rounded, and the flags.
func (w way) rounded(s seen) (uint64, api.Flags, api.Errno) {
	unit := max(s.top-w.precision, w.least)
	units, same := w.taken(s, unit)
	if bits.Len64(units)+unit > w.limit {
		return w.over(s.neg), api.Overflow | api.Inexact, api.OK
	}
	flags := api.Flags(0)
	if !same {
		flags |= api.Inexact
		if w.tiny(s) {
			flags |= api.Underflow
		}
	}
	return w.wordOf(s.neg, units, unit), flags, api.OK
}

// tiny tells whether what is taken would be below the normal numbers, were there finer units there.
func (w way) tiny(s seen) bool {
	unit := s.top - w.precision
	units, _ := w.taken(s, unit)
	return bits.Len64(units)+unit < w.least+w.precision
}

// wordOf is the word of so many units, which the format has; a nought keeps the sign.
func (w way) wordOf(neg bool, units uint64, unit int) uint64 {
	if units == 0 {
		zero, _ := word.Zero(w.format, neg)
		return zero
	}
	d, _ := dyad.Make(neg, nat.Of(units), unit)
	of, _ := word.Of(w.format, d)
	return of
}

// over is the word for a number that is too great. In all modes to the nearest that is the infinite one, as if the number lay beyond half way to it.
func (w way) over(neg bool) uint64 {
	if w.outward(neg, false, farHalf) {
		inf, _ := word.Inf(w.format, neg)
		return inf
	}
	greatest, _ := word.Greatest(w.format, neg)
	return greatest
}
