package word

import "cutplane/api"

// Zero is the nought with the sign.
func Zero(f api.Format, neg bool) (uint64, api.Errno) {
	s, e := shapeOf(f)
	if e != api.OK {
		return 0, e
	}
	return s.signed(0, neg), api.OK
}

// Inf is the infinite word with the sign.
func Inf(f api.Format, neg bool) (uint64, api.Errno) {
	s, e := shapeOf(f)
	if e != api.OK {
		return 0, e
	}
	return s.signed(s.infinite(), neg), api.OK
}

// Greatest is the finite word with the sign that is greatest in size.
func Greatest(f api.Format, neg bool) (uint64, api.Errno) {
	s, e := shapeOf(f)
	if e != api.OK {
		return 0, e
	}
	return s.signed(s.infinite()-1, neg), api.OK
}

// Least is the word with the sign that is least in size, but not a nought.
func Least(f api.Format, neg bool) (uint64, api.Errno) {
	s, e := shapeOf(f)
	if e != api.OK {
		return 0, e
	}
	return s.signed(1, neg), api.OK
}

// None is the canonical NaN.
func None(f api.Format) (uint64, api.Errno) {
	s, e := shapeOf(f)
	if e != api.OK {
		return 0, e
	}
	return s.none(), api.OK
}
