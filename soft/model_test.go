package soft_test

import (
	"math/big"
	"sort"
	"testing"

	"cutplane/api"
)

// held is how the size of an exact number stands to y: -1, 0, 1. Nothing else need be known of a number that is rounded.
type held func(y *big.Float) int

// exactly looks that the library has not rounded.
func exactly(x *big.Float) *big.Float {
	if x.Acc() != big.Exact {
		panic("the library's number is too short")
	}
	return x
}

func blank() *big.Float { return new(big.Float).SetPrec(5000) }

func times(a, b *big.Float) *big.Float { return exactly(blank().Mul(a, b)) }

func plus(a, b *big.Float) *big.Float { return exactly(blank().Add(a, b)) }

func pow(n int) *big.Float { return blank().SetMantExp(big.NewFloat(1), n) }

// value is a finite word's value, and 2^T of +infinite: that is where the next word would be.
func (k table) value(w uint64) *big.Float {
	if w == k.inf {
		return pow(k.limit)
	}
	return exactly(blank().SetFloat64(k.float(w)))
}

func heldNumber(x *big.Float) held {
	size := blank().Abs(x)
	return func(y *big.Float) int { return size.Cmp(y) }
}

func heldQuo(a, b *big.Float) held {
	a, b = blank().Abs(a), blank().Abs(b)
	return func(y *big.Float) int { return a.Cmp(times(y, b)) }
}

func heldRoot(a *big.Float) held {
	return func(y *big.Float) int { return a.Cmp(times(y, y)) }
}

// spot is where a size lies among the words: not below near, but below the next one; half is how it stands to the middle of both.
type spot struct {
	over, same bool
	near       uint64
	half       int
}

// find looks for the spot by halving the list of all finite words.
func (k table) find(x held) spot {
	if x(pow(k.limit)) >= 0 {
		return spot{over: true}
	}
	above := sort.Search(int(k.inf), func(w int) bool { return x(k.value(uint64(w))) < 0 })
	near := uint64(above - 1)
	middle := times(plus(k.value(near), k.value(near+1)), pow(-1))
	return spot{near: near, same: x(k.value(near)) == 0, half: x(middle)}
}

// word is the word that is taken of a size, infinite if that is too great.
func (s spot) word(k table, m api.Mode) uint64 {
	inward := m == api.ToZero || m == api.ToDown
	switch {
	case s.over && inward:
		return k.inf - 1
	case s.over:
		return k.inf
	case s.same || inward:
		return s.near
	case m == api.ToUp || s.half > 0 || s.half == 0 && (m == api.ToAway || s.near%2 == 1):
		return s.near + 1
	}
	return s.near
}

// exact is an exact number that is not nought, as the words of a format see it.
type exact struct {
	k   table
	neg bool
	at  spot
	// Sizes in the field just below the normal numbers are seen 2^10 times as great, too: the unit is then the finer one.
	small, close bool
	fine         spot
}

func (k table) exact(neg bool, x held) exact {
	normal := k.least + k.precision - 1
	s := exact{k: k, neg: neg, at: k.find(x), small: x(pow(normal)) < 0, close: x(pow(normal-1)) >= 0}
	if s.small && s.close {
		s.fine = k.find(func(y *big.Float) int { return x(times(y, pow(-10))) })
	}
	return s
}

// tiny tells whether what is taken with the finer unit is below the normal numbers.
func (s exact) tiny(m api.Mode) bool {
	return s.small && (!s.close || s.fine.word(s.k, m) < 11*s.k.step())
}

// rounded is the word and the flags that layer 4's four steps tell.
func (s exact) rounded(m api.Mode) (uint64, api.Flags) {
	sign := uint64(0)
	if s.neg {
		m, sign = mirror(m), s.k.sign
	}
	w := s.at.word(s.k, m)
	switch {
	case s.at.over || w == s.k.inf:
		return w | sign, bothOver
	case s.at.same:
		return w | sign, 0
	case s.tiny(m):
		return w | sign, bothUnder
	}
	return w | sign, api.Inexact
}

// noughtOf is the nought of a sum that is 0.
func (k table) noughtOf(m api.Mode) uint64 {
	if m == api.ToDown {
		return k.sign
	}
	return 0
}

// check holds a call of finite words against the model, in each mode; x is what the words come to.
func (c call) check(t *testing.T, k table, x *big.Float, words ...uint64) {
	t.Helper()
	if x.Sign() == 0 {
		for _, m := range modes() {
			c.tell(t, k, m, k.noughtOf(m), 0, words...)
		}
		return
	}
	c.checkExact(t, k.exact(x.Sign() < 0, heldNumber(x)), words...)
}

func (c call) checkExact(t *testing.T, s exact, words ...uint64) {
	t.Helper()
	for _, m := range modes() {
		w, flags := s.rounded(m)
		c.tell(t, s.k, m, w, flags, words...)
	}
}
