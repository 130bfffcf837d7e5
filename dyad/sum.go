package dyad

import (
	"cmp"

	"cutplane/api"
	"cutplane/nat"
)

// Cmp is -1, 0 or 1, as a is below b, the same, above it.
func Cmp(a, b api.Dyad) (int, api.Errno) {
	if !allMay(a, b) {
		return 0, api.ErrArg
	}
	if c := cmp.Compare(Sign(a), Sign(b)); c != 0 {
		return c, api.OK
	}
	if a.Neg {
		return compareSizes(b, a), api.OK
	}
	return compareSizes(a, b), api.OK
}

// compareSizes compares the tops first: where these are level, the Mag that is shifted up is no longer than the other one.
func compareSizes(a, b api.Dyad) int {
	if c := cmp.Compare(top(a), top(b)); c != 0 {
		return c
	}
	low := min(a.Exp, b.Exp)
	return compareMags(shifted(a.Mag, a.Exp-low), shifted(b.Mag, b.Exp-low))
}

func compareMags(a, b []uint32) int {
	c, _ := nat.Cmp(a, b)
	return c
}

// Add is the exact sum.
func Add(a, b api.Dyad) (api.Dyad, api.Errno) {
	if !allMay(a, b) {
		return api.Dyad{}, api.ErrArg
	}
	return sum(a, b)
}

// Sub is the exact difference.
func Sub(a, b api.Dyad) (api.Dyad, api.Errno) {
	if !allMay(a, b) {
		return api.Dyad{}, api.ErrArg
	}
	b.Neg = !b.Neg
	return sum(a, b)
}

// sum adds numbers whose form may be wrong in one thing, a nought's sign.
func sum(a, b api.Dyad) (api.Dyad, api.Errno) {
	switch {
	case isNought(a.Mag):
		return formed(b.Neg, b.Mag, b.Exp)
	case isNought(b.Mag):
		return formed(a.Neg, a.Mag, a.Exp)
	case a.Exp == b.Exp:
		return levelSum(a, b)
	case a.Exp < b.Exp:
		return stepSum(b, a)
	}
	return stepSum(a, b)
}

// levelSum adds numbers of one Exp. Both Mags are odd, so the sum is even, and its half is reckoned: that is never too long, though the sum may be.
func levelSum(a, b api.Dyad) (api.Dyad, api.Errno) {
	g, h := shifted(a.Mag, -1), shifted(b.Mag, -1)
	if a.Neg == b.Neg {
		return formed(a.Neg, plus(plus(g, h), nat.Of(1)), a.Exp+1)
	}
	if compareMags(g, h) < 0 {
		return formed(b.Neg, less(h, g), a.Exp+1)
	}
	return formed(a.Neg, less(g, h), a.Exp+1)
}

// stepSum adds numbers of which a has the greater Exp. In units of b's lowest bit a is even and b is odd, so the sum is odd, and the whole number below its half is reckoned: that is never too long where the sum is not, though a may be.
func stepSum(a, b api.Dyad) (api.Dyad, api.Errno) {
	g, _, e := nat.Shift(a.Mag, a.Exp-b.Exp-1)
	if e != api.OK {
		return api.Dyad{}, e
	}
	h := shifted(b.Mag, -1)
	neg, half := a.Neg, []uint32(nil)
	switch {
	case a.Neg == b.Neg:
		half, e = nat.Add(g, h)
	case compareMags(g, h) > 0:
		half = less(less(g, h), nat.Of(1))
	default:
		neg, half = b.Neg, less(h, g)
	}
	if e != api.OK {
		return api.Dyad{}, e
	}
	even, _, e := nat.Shift(half, 1)
	if e != api.OK {
		return api.Dyad{}, e
	}
	return formed(neg, plus(even, nat.Of(1)), b.Exp)
}

// plus is a sum that is known not to be too long.
func plus(a, b []uint32) []uint32 {
	s, _ := nat.Add(a, b)
	return s
}

// less is a difference that is known not to be below nought.
func less(a, b []uint32) []uint32 {
	s, _ := nat.Sub(a, b)
	return s
}

// Mul is the exact product.
func Mul(a, b api.Dyad) (api.Dyad, api.Errno) {
	if !allMay(a, b) {
		return api.Dyad{}, api.ErrArg
	}
	mag, e := nat.Mul(a.Mag, b.Mag)
	if e != api.OK {
		return api.Dyad{}, e
	}
	return formed(a.Neg != b.Neg, mag, a.Exp+b.Exp)
}

// Shift is d times 2^n.
func Shift(d api.Dyad, n int) (api.Dyad, api.Errno) {
	if !May(d) {
		return api.Dyad{}, api.ErrArg
	}
	// Two MaxExp is as far as an Exp can be moved within the bounds; nearer to 0 than the ends of int, it keeps the sum true.
	n = max(-2*api.MaxExp-1, min(n, 2*api.MaxExp+1))
	return formed(d.Neg, d.Mag, d.Exp+n)
}

// Floor is the greatest whole number that is not above d. It is never too long: what is not whole loses a bit at least before 1 is added.
func Floor(d api.Dyad) (api.Dyad, api.Errno) {
	if !May(d) {
		return api.Dyad{}, api.ErrArg
	}
	if d.Exp >= 0 {
		return formed(d.Neg, d.Mag, d.Exp)
	}
	mag := shifted(d.Mag, d.Exp)
	if d.Neg {
		mag = plus(mag, nat.Of(1))
	}
	return formed(d.Neg, mag, 0)
}
