package word

import (
	"cutplane/api"
	"cutplane/dyad"
	"cutplane/nat"
)

// Class is the word's class.
func Class(f api.Format, w uint64) (api.Class, api.Errno) {
	s, e := goodShape(f, w)
	if e != api.OK {
		return 0, e
	}
	return s.class(w), api.OK
}

func (s shape) class(w uint64) api.Class {
	switch size := s.size(w); {
	case size == 0:
		return api.Nought
	case size <= s.fracBits():
		return api.Subnormal
	case size < s.infinite():
		return api.Normal
	case size == s.infinite():
		return api.Infinite
	}
	return api.NaN
}

// finiteShape is the shape of the format, if that has the word, and it is finite.
func finiteShape(f api.Format, w uint64) (shape, api.Errno) {
	s, e := goodShape(f, w)
	if e != api.OK {
		return shape{}, e
	}
	if !s.isFinite(w) {
		return shape{}, api.ErrNone
	}
	return s, api.OK
}

// unitExp is the exponent of a finite word's unit: the fields 0 and 1 have the same one.
func (s shape) unitExp(w uint64) int { return max(s.field(w)-1, 0) + s.least }

// units is how many of its units a finite word is in size: the field 0 alone has no bit ahead of the fraction.
func (s shape) units(w uint64) uint64 {
	frac := w & s.fracBits()
	if s.field(w) == 0 {
		return frac
	}
	return 1<<s.frac | frac
}

// Value is the word's value.
func Value(f api.Format, w uint64) (api.Dyad, api.Errno) {
	s, e := finiteShape(f, w)
	if e != api.OK {
		return api.Dyad{}, e
	}
	return dyad.Make(s.isNeg(w), nat.Of(s.units(w)), s.unitExp(w))
}

// Unit is the word's unit.
func Unit(f api.Format, w uint64) (api.Dyad, api.Errno) {
	s, e := finiteShape(f, w)
	if e != api.OK {
		return api.Dyad{}, e
	}
	return dyad.Make(false, nat.Of(1), s.unitExp(w))
}

// Of is the word whose value is d.
func Of(f api.Format, d api.Dyad) (uint64, api.Errno) {
	s, e := shapeOf(f)
	switch {
	case e != api.OK:
		return 0, e
	case !dyad.May(d):
		return 0, api.ErrArg
	case dyad.Sign(d) == 0:
		return 0, api.OK
	}
	return s.wordOf(d)
}

// wordOf is the word whose value is d, which is not nought.
func (s shape) wordOf(d api.Dyad) (uint64, api.Errno) {
	unit := max(dyad.Top(d)-s.frac-1, s.least)
	field := unit - s.least + 1
	if field >= s.top || d.Exp < unit {
		return 0, api.ErrNone
	}
	// So many whole units have at most one bit more than the fraction: Num tells them.
	odd, _ := nat.Num(d.Mag)
	units := odd << (d.Exp - unit)
	// A normal word's units have that bit, which adds the last one to the field; a subnormal one's have it not, and its field is 0.
	return s.signed(uint64(field-1)<<s.frac+units, d.Neg), api.OK
}
