package conv

import (
	"cutplane/api"
	"cutplane/dyad"
	"cutplane/nat"
)

// quotient is an exact quotient of two words' values: in size whole and left / by, left being below by.
//
// All words' values lie so near to each other that none of them is too long a number in units of another one's last bit, and no quotient, nor its product with the divisor, is too long: the errors of the layers below are left out here.
type quotient struct {
	neg             bool
	whole, left, by []uint32
}

// quotientOf is a by b, which is not nought.
func quotientOf(a, b api.Dyad) quotient {
	unit := min(a.Exp, b.Exp)
	size, _, _ := nat.Shift(a.Mag, a.Exp-unit)
	by, _, _ := nat.Shift(b.Mag, b.Exp-unit)
	whole, left, _ := nat.QuoRem(size, by)
	return quotient{neg: a.Neg != b.Neg, whole: whole, left: left, by: by}
}

// isWhole tells whether nothing is left.
func (q quotient) isWhole() bool { return len(q.left) == 0 }

// isOdd tells whether the whole part is odd.
func (q quotient) isOdd() bool { return len(q.whole) > 0 && q.whole[0]%2 == 1 }

// toHalf is -1, 0 or 1, as what is left is less than half of the divisor, just that, more.
func (q quotient) toHalf() int {
	twice, _, _ := nat.Shift(q.left, 1)
	c, _ := nat.Cmp(twice, q.by)
	return c
}

// goesUp tells whether in size the next whole number is taken, not the whole part.
func (q quotient) goesUp(m api.Mode) bool {
	if q.isWhole() {
		return false
	}
	switch half := q.toHalf(); m {
	case api.ToEven:
		return half > 0 || half == 0 && q.isOdd()
	case api.ToAway:
		return half >= 0
	case api.ToUp:
		return !q.neg
	case api.ToDown:
		return q.neg
	}
	return false
}

// taken is the whole number that is taken for the quotient.
func (q quotient) taken(m api.Mode) api.Dyad {
	size := q.whole
	if q.goesUp(m) {
		size, _ = nat.Add(size, nat.Of(1))
	}
	whole, _ := dyad.Make(q.neg, size, 0)
	return whole
}

// wholeOf is the whole number that is taken for a word's value, and Inexact, if it is another number.
func wholeOf(m api.Mode, d api.Dyad) (api.Dyad, api.Flags) {
	q := quotientOf(d, dyad.Int(1))
	if q.isWhole() {
		return q.taken(m), 0
	}
	return q.taken(m), api.Inexact
}

// remainder is a less the whole multiple of b, which is not nought, that is nearest to it, of two the even one.
func remainder(a, b api.Dyad) api.Dyad {
	multiple, _ := dyad.Mul(quotientOf(a, b).taken(api.ToEven), b)
	left, _ := dyad.Sub(a, multiple)
	return left
}
