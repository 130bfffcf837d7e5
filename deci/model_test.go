package deci_test

import (
	"math"
	"math/big"
	"regexp"
	"testing"

	"cutplane/api"
)

// The models here reckon with the library's fractions, by the words of the chapters.

func fraction(text string) *big.Rat {
	x, ok := new(big.Rat).SetString(text)
	if !ok {
		panic("no fraction: " + text)
	}
	return x
}

// power is base^n, n of either sign.
func power(base int64, n int) *big.Rat {
	size := new(big.Int).Exp(big.NewInt(base), big.NewInt(int64(max(n, -n))), nil)
	x := new(big.Rat).SetInt(size)
	if n < 0 {
		x.Inv(x)
	}
	return x
}

func size(x *big.Rat) *big.Rat { return new(big.Rat).Abs(x) }

func times(a, b *big.Rat) *big.Rat { return new(big.Rat).Mul(a, b) }

func whole(n *big.Int) *big.Rat { return new(big.Rat).SetInt(n) }

// floor is the greatest whole number that is not above x.
func floor(x *big.Rat) *big.Int {
	return new(big.Int).Div(x.Num(), x.Denom()) // The denominator is above 0: this goes downwards.
}

// multiple is the whole number of units that the mode takes for x.
func multiple(x, unit *big.Rat, m api.Mode) *big.Int {
	units := new(big.Rat).Quo(x, unit)
	lower := floor(units)
	if units.IsInt() {
		return lower
	}
	upper := new(big.Int).Add(lower, big.NewInt(1))
	twice := times(new(big.Rat).Sub(units, whole(lower)), power(2, 1))
	half := twice.Cmp(power(2, 0))
	takes := false // the upper one
	switch m {
	case api.ToEven:
		takes = half > 0 || half == 0 && upper.Bit(0) == 0
	case api.ToAway:
		takes = half > 0 || half == 0 && x.Sign() > 0
	case api.ToUp:
		takes = true
	case api.ToZero:
		takes = x.Sign() < 0
	}
	if takes {
		return upper
	}
	return lower
}

// expOf is the e with base^e <= |x| < base^(e+1), x not being 0.
func expOf(x *big.Rat, base int64) int {
	bits := x.Num().BitLen() - x.Denom().BitLen()
	e := int(float64(bits) / math.Log2(float64(base)))
	for size(x).Cmp(power(base, e)) < 0 {
		e--
	}
	for size(x).Cmp(power(base, e+1)) >= 0 {
		e++
	}
	return e
}

// rounded is the word to which x, not 0, is rounded, and the flags.
func (k table) rounded(x *big.Rat, m api.Mode) (uint64, api.Flags) {
	top := expOf(x, 2) + 1
	unit := max(top-k.precision, k.least)
	taken := times(whole(multiple(x, power(2, unit), m)), power(2, unit))
	fineUnit := power(2, top-k.precision)
	fine := times(whole(multiple(x, fineUnit, m)), fineUnit)
	neg := uint64(0)
	if x.Sign() < 0 {
		neg = k.sign
	}
	switch {
	case size(taken).Cmp(power(2, k.limit)) >= 0:
		return k.over(m, neg), bothOver
	case taken.Cmp(x) == 0:
		return k.wordOf(taken) | neg, 0
	case size(fine).Cmp(power(2, k.least+k.precision-1)) < 0:
		return k.wordOf(taken) | neg, bothUnder
	}
	return k.wordOf(taken) | neg, api.Inexact
}

// over is what stands for a number that is too great.
func (k table) over(m api.Mode, neg uint64) uint64 {
	inward := m == api.ToZero || m == api.ToUp && neg != 0 || m == api.ToDown && neg == 0
	if inward {
		return k.inf - 1 | neg
	}
	return k.inf | neg
}

// wordOf is the word of a number that the format has.
func (k table) wordOf(x *big.Rat) uint64 {
	y, same := x.Float64()
	if !same {
		panic("no word has the model's number")
	}
	return k.bitsOf(y)
}

// shown is the number that is taken for x, not 0, with n digits.
func shown(x *big.Rat, m api.Mode, n int) *big.Rat {
	unit := power(10, expOf(x, 10)-n+1)
	return times(whole(multiple(x, unit, m)), unit)
}

// span is the numbers that are taken, in the mode ToEven, for a word above nought: from one end to the other one, with both ends or without.
type span struct {
	from, to *big.Rat
	ends     bool
}

func (k table) span(w uint64) span {
	above := power(2, k.limit)
	if w+1 < k.inf {
		above = k.value(w + 1)
	}
	middle := func(a, b *big.Rat) *big.Rat { return times(new(big.Rat).Add(a, b), power(2, -1)) }
	return span{middle(k.value(w-1), k.value(w)), middle(k.value(w), above), w%2 == 0}
}

func (s span) has(x *big.Rat) bool {
	from, to := s.from.Cmp(x), s.to.Cmp(x)
	return from < 0 && to > 0 || s.ends && (from == 0 || to == 0)
}

// fewest is the number of the shortest text of a word above nought.
func (k table) fewest(w uint64) *big.Rat {
	x, s := k.value(w), k.span(w)
	e := expOf(x, 10)
	for n := 1; ; n++ {
		unit := power(10, e-n+1)
		lower := floor(new(big.Rat).Quo(x, unit))
		upper := new(big.Int).Add(lower, big.NewInt(1))
		low, high := times(whole(lower), unit), times(whole(upper), unit)
		toLow, toHigh := new(big.Rat).Sub(x, low), new(big.Rat).Sub(high, x)
		near := toLow.Cmp(toHigh)
		switch {
		case s.has(low) && s.has(high) && (near < 0 || near == 0 && lower.Bit(0) == 0):
			return low
		case s.has(high):
			return high
		case s.has(low):
			return low
		}
	}
}

// A number has but one text of either form.
const (
	fullForm = `^-?(0|[1-9][0-9]*)(\.[0-9]*[1-9])?$`
	farForm  = `^-?[1-9](\.[0-9]*[1-9])?e-?[1-9][0-9]*$`
	anyText  = `^(nan|-?inf|-?[0-9]+(\.[0-9]+)?(e[+-]?[0-9]{1,6})?)$`
)

func plainRule(x *big.Rat) *regexp.Regexp {
	e := expOf(x, 10)
	if -5 <= e && e <= 20 {
		return regexp.MustCompile(fullForm)
	}
	return regexp.MustCompile(farForm)
}

// isPlain fails the test, if the text that was told is not the plain form of x, not 0.
func (g written) isPlain(t *testing.T, x *big.Rat, name string, k table, about ...any) {
	t.Helper()
	if g.err != api.OK || !plainRule(x).MatchString(g.text) || fraction(g.text).Cmp(x) != 0 {
		t.Fatalf("%s, format %d, of %x: %q error %d, no plain form of %s", name, k.f, about, short(g.text), g.err, short(x.FloatString(60)))
	}
}
