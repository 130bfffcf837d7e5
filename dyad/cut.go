package dyad

import (
	"cutplane/api"
	"cutplane/nat"
)

// wrongAsk tells the error of a number of bits that is asked of some numbers.
func wrongAsk(bits int, numbers ...api.Dyad) api.Errno {
	switch {
	case bits < 1 || !allMay(numbers...):
		return api.ErrArg
	case bits > api.MaxBits:
		return api.ErrLong
	}
	return api.OK
}

// Cut is d cut to so many bits, and whether that is less in size.
func Cut(d api.Dyad, bits int) (api.Dyad, bool, api.Errno) {
	if e := wrongAsk(bits, d); e != api.OK {
		return api.Dyad{}, false, e
	}
	return cut(d.Neg, d.Mag, d.Exp, bits, false)
}

// cut takes the highest bits of mag, which is a number's whole part in units of 2^exp; more tells whether the number has a part beside it.
func cut(neg bool, mag []uint32, exp, bits int, more bool) (api.Dyad, bool, api.Errno) {
	drop := max(nat.Len(mag)-bits, 0)
	kept, lost, _ := nat.Shift(mag, -drop)
	d, e := formed(neg, kept, exp+drop)
	if e != api.OK {
		return api.Dyad{}, false, e
	}
	return d, lost || more, api.OK
}

// Quo is the quotient cut to so many bits, and whether that is less in size.
func Quo(a, b api.Dyad, bits int) (api.Dyad, bool, api.Errno) {
	if e := wrongAsk(bits, a, b); e != api.OK {
		return api.Dyad{}, false, e
	}
	switch {
	case isNought(b.Mag):
		return api.Dyad{}, false, api.ErrZero
	case isNought(a.Mag):
		return api.Dyad{}, false, api.OK
	}
	// Shifted so far, a has a whole quotient of bits or bits+1 bits.
	up := bits + nat.Len(b.Mag) - nat.Len(a.Mag)
	q, more := wholeQuo(a.Mag, b.Mag, up, bits)
	return cut(a.Neg != b.Neg, q, a.Exp-b.Exp-up, bits, more)
}

// spareBits is how many bits more than the quotient the divisor's high part has: enough that leaving out the low part makes the quotient at most one too great.
const spareBits = 32

// wholeQuo is the whole part of a times 2^up by b, which has bits or bits+1 bits, and whether there is more.
//
// Shifted up, a can be longer than a number may be. So it is divided, without its low bits, by b without as many; the quotient is then held against what was left out.
func wholeQuo(a, b []uint32, up, bits int) ([]uint32, bool) {
	out := max(nat.Len(b)-bits-spareBits, 0)
	highA, lowA, lost := parted(a, up, out)
	highB, lowB, _ := parted(b, 0, out)
	q, r, _ := nat.QuoRem(highA, highB)
	left := plus(shifted(r, out), lowA)
	took, _ := nat.Mul(q, lowB)
	if compareMags(left, took) < 0 {
		return less(q, nat.Of(1)), true
	}
	return q, lost || compareMags(left, took) > 0
}

// parted is the whole part of a times 2^up as high times 2^out plus low, low being below 2^out, and whether there is more.
func parted(a []uint32, up, out int) (high, low []uint32, more bool) {
	high = shifted(a, up-out)
	if up >= out {
		return high, nil, false
	}
	whole, more, _ := nat.Shift(a, min(up, 0))
	up = max(up, 0)
	low = less(whole, shifted(high, out-up))
	return high, shifted(low, up), more
}

// Root is the root of d cut to so many bits, and whether that is less.
func Root(d api.Dyad, bits int) (api.Dyad, bool, api.Errno) {
	if e := wrongAsk(bits, d); e != api.OK {
		return api.Dyad{}, false, e
	}
	switch {
	case d.Neg:
		return api.Dyad{}, false, api.ErrLess
	case isNought(d.Mag):
		return api.Dyad{}, false, api.OK
	}
	// The root of a number of 2*bits or 2*bits-1 bits has bits bits; what is left of the exponent must be even.
	up := 2*bits - nat.Len(d.Mag)
	if (d.Exp-up)%2 != 0 {
		up--
	}
	mag, lost, _ := nat.Shift(d.Mag, up)
	root, whole, _ := nat.Root(mag)
	return cut(false, root, (d.Exp-up)/2, bits, lost || !whole)
}
