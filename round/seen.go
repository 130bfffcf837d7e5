package round

import (
	"math/bits"

	"cutplane/api"
	"cutplane/dyad"
	"cutplane/nat"
)

// highBits is how many of a number's bits are looked at. No unit is finer than the 53rd bit from the top, so what is below the 64th can only say that there is more.
const highBits = 64

// seen is as much of an exact number, which is not nought, as rounding hangs on: in size it is high times 2^(top-highBits), or, if there is more, above that by less than one at the last place. The highest bit of high is 1.
type seen struct {
	neg  bool
	top  int
	high uint64
	more bool
}

// seenCut is a number as it is seen that is head times 2^exp, or more than that in size, head being cut to highBits bits.
func seenCut(head api.Dyad, more bool, exp int) seen {
	high, _ := nat.Num(head.Mag)
	return seen{
		neg:  head.Neg,
		top:  dyad.Top(head) + exp,
		high: high << bits.LeadingZeros64(high),
		more: more,
	}
}

// whole is d without its exponent: what is cut of that is never out of range.
func whole(d api.Dyad) api.Dyad { return api.Dyad{Neg: d.Neg, Mag: d.Mag} }

func seenNumber(d api.Dyad) seen {
	head, more, _ := dyad.Cut(whole(d), highBits)
	return seenCut(head, more, d.Exp)
}

func seenQuo(a, b api.Dyad) seen {
	head, more, _ := dyad.Quo(whole(a), whole(b), highBits)
	return seenCut(head, more, a.Exp-b.Exp)
}

// seenRoot leaves d its exponent: the root has about half of it, which is never out of range.
func seenRoot(d api.Dyad) seen {
	head, more, _ := dyad.Root(d, highBits)
	return seenCut(head, more, 0)
}

// place is where a number lies between its neighbours, seen from nought.
type place int

const (
	onNear   place = iota // it is the nearer one to nought
	nearHalf              // it is less than half way to the other one
	onHalf
	farHalf
)

// between is how many units of 2^unit the neighbour nearer to nought has in size, and where the number lies above it. The unit is above the last bit that is seen.
func (s seen) between(unit int) (uint64, place) {
	out := unit - (s.top - highBits)
	if out > highBits {
		return 0, nearHalf
	}
	// The bits that go out are moved to the upper end, so that half a unit is one bit at one place.
	const half = 1 << (highBits - 1)
	near, rest := s.high>>out, s.high<<(highBits-out)
	switch {
	case rest == 0 && !s.more:
		return near, onNear
	case rest < half:
		return near, nearHalf
	case rest == half && !s.more:
		return near, onHalf
	}
	return near, farHalf
}
