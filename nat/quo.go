package nat

import (
	"math/bits"
	"slices"

	"cutplane/api"
)

// QuoRem is the whole quotient of a by b, and what is left.
func QuoRem(a, b []uint32) (q, r []uint32, e api.Errno) {
	if !allMay(a, b) {
		return nil, nil, api.ErrArg
	}
	if len(b) == 0 {
		return nil, nil, api.ErrZero
	}
	q, r = divide(a, b)
	return q, r, api.OK
}

// divide is the whole quotient of a by b, which is not nought, and what is left.
func divide(a, b []uint32) (q, r []uint32) {
	if compare(a, b) < 0 {
		return nil, slices.Clone(a)
	}
	if len(b) == 1 {
		q = slices.Clone(a)
		left := divideBy(q, b[0])
		return trim(q), Of(uint64(left))
	}
	return longDivide(a, b)
}

// divideBy makes of a, in its place, its whole quotient by d, and tells what is left.
func divideBy(a []uint32, d uint32) uint32 {
	left := uint64(0)
	for i := range len(a) {
		at := len(a) - 1 - i
		t := left<<digitBits | uint64(a[at])
		a[at] = uint32(t / uint64(d))
		left = t % uint64(d)
	}
	return uint32(left)
}

// longDivide goes as one divides by hand. Both numbers are shifted up till the divisor's highest bit is 1: then a digit that is guessed from the highest digits is hardly ever wrong, and by one at most.
func longDivide(a, b []uint32) (q, r []uint32) {
	far := bits.LeadingZeros32(b[len(b)-1])
	v := shiftUp(b, far)
	u := make([]uint32, len(a)+1)
	copy(u, shiftUp(a, far))
	q = make([]uint32, len(a)-len(b)+1)
	for i := range len(q) {
		at := len(q) - 1 - i
		q[at] = nextDigit(u[at:at+len(v)+1], v)
	}
	return trim(q), shiftDown(u, far)
}

// nextDigit is the whole quotient of u, which has one digit more than v and is below v times 2^32, by v; what is left stands in u thereafter.
func nextDigit(u, v []uint32) uint32 {
	q := guess(u, v)
	if takeTimes(u, v, q) {
		giveBack(u, v)
		q--
	}
	return q
}

// guess divides the three highest digits of u by the two highest of v: the true digit, or one above it.
func guess(u, v []uint32) uint32 {
	n := len(v)
	high, next := uint64(v[n-1]), uint64(v[n-2])
	t := uint64(u[n])<<digitBits | uint64(u[n-1])
	q, left := t/high, t%high
	for q > digitMask || q*next > left<<digitBits|uint64(u[n-2]) {
		q--
		left += high
		if left > digitMask {
			break
		}
	}
	return uint32(q)
}

// takeTimes takes q times v from u, which has one digit more, and tells whether that was more than there was.
func takeTimes(u, v []uint32, q uint32) bool {
	n := len(v)
	carry := uint64(0)
	for i, x := range v {
		t := uint64(x)*uint64(q) + carry
		s := uint64(u[i]) - t&digitMask
		u[i] = uint32(s)
		// Not above 2^32 - 1: where t's upper half is that, its lower half is 0, and nothing is borrowed.
		carry = t>>digitBits + s>>63
	}
	s := uint64(u[n]) - carry
	u[n] = uint32(s)
	return s>>63 != 0
}

// giveBack adds v to u, which has one digit more and is below nought by less than v: the last carry makes that good.
func giveBack(u, v []uint32) {
	carry := uint32(0)
	for i, x := range v {
		u[i], carry = bits.Add32(u[i], x, carry)
	}
	u[len(v)] += carry
}
