package round_test

import (
	"math"
	"math/big"

	"cutplane/api"
)

// sized is the size of an exact number that is not nought.
type sized interface {
	// top is t with 2^(t-1) <= size < 2^t.
	top() int
	// floor is how many whole units of 2^unit are in it, and whether these are all of it; unit is not far below the top.
	floor(unit int) (*big.Int, bool)
}

// ratio is a by b times 2^exp.
type ratio struct {
	a, b *big.Int
	exp  int
}

func (r ratio) top() int {
	k := r.a.BitLen() - r.b.BitLen()
	up, down := new(big.Int).Lsh(r.a, uint(max(-k, 0))), new(big.Int).Lsh(r.b, uint(max(k, 0)))
	if up.Cmp(down) >= 0 {
		k++
	}
	return k + r.exp
}

func (r ratio) floor(unit int) (*big.Int, bool) {
	if unit > r.top() {
		return new(big.Int), false
	}
	n := r.exp - unit
	up, down := new(big.Int).Lsh(r.a, uint(max(n, 0))), new(big.Int).Lsh(r.b, uint(max(-n, 0)))
	q, rest := up.QuoRem(up, down, new(big.Int))
	return q, rest.Sign() == 0
}

// square is a number by its square, a times 2^exp.
type square struct {
	a   *big.Int
	exp int
}

func (s square) top() int { return (s.a.BitLen() + s.exp + 1) >> 1 }

func (s square) floor(unit int) (*big.Int, bool) {
	if unit > s.top() {
		return new(big.Int), false
	}
	q, exact := ratio{s.a, big.NewInt(1), s.exp}.floor(2 * unit)
	root := new(big.Int).Sqrt(q)
	return root, exact && new(big.Int).Mul(root, root).Cmp(q) == 0
}

// chosen is the chapter's step 2: the neighbour that is taken, in units, with its sign, and whether it is the number.
func chosen(m api.Mode, neg bool, x sized, unit int) (*big.Int, bool) {
	lower, same := x.floor(unit)
	if same {
		return signed(lower, neg), true
	}
	upper := plus(lower, 1)
	halves, exact := x.floor(unit - 1)
	nearer, far := lower, upper
	if halves.Bit(0) == 1 {
		nearer, far = upper, lower
	}
	level := exact && halves.Bit(0) == 1
	if neg {
		lower, upper = signed(upper, true), signed(lower, true)
		nearer, far = signed(nearer, true), signed(far, true)
	}
	switch {
	case m == api.ToDown:
		return lower, false
	case m == api.ToUp:
		return upper, false
	case m == api.ToZero && lower.CmpAbs(upper) < 0, m == api.ToAway && level && upper.CmpAbs(lower) < 0, m == api.ToEven && level && lower.Bit(0) == 0:
		return lower, false
	case m == api.ToZero || level:
		return upper, false
	}
	return nearer, false
}

func signed(n *big.Int, neg bool) *big.Int {
	if neg {
		return new(big.Int).Neg(n)
	}
	return new(big.Int).Set(n)
}

// model is the word and the flags that the chapter's four steps tell.
func (k table) model(m api.Mode, neg bool, x sized) (uint64, api.Flags) {
	unit := max(x.top()-k.precision, k.least)
	units, same := chosen(m, neg, x, unit)
	if units.BitLen()+unit > k.limit {
		return k.tooGreat(m, neg), bothOver
	}
	sign := 1.0
	if neg {
		sign = -1
	}
	w := k.bitsOf(math.Copysign(math.Ldexp(float64(units.Int64()), unit), sign))
	if same {
		return w, 0
	}
	free, _ := chosen(m, neg, x, x.top()-k.precision)
	if free.BitLen()+x.top()-k.precision <= k.least+k.precision-1 {
		return w, bothUnder
	}
	return w, api.Inexact
}

// tooGreat is the chapter's step 3.
func (k table) tooGreat(m api.Mode, neg bool) uint64 {
	switch {
	case m == api.ToZero && !neg, m == api.ToDown && !neg:
		return k.inf - 1
	case m == api.ToZero && neg, m == api.ToUp && neg:
		return k.sign | k.inf - 1
	case neg:
		return k.sign | k.inf
	}
	return k.inf
}
