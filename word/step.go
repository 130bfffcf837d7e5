package word

import "cutplane/api"

// change makes another word, or an error, of a good word that is no NaN.
type change func(s shape, w uint64) (uint64, api.Errno)

// changed is the face of all that is done with a good word: what do makes of it, and the canonical NaN of a NaN.
func changed(f api.Format, w uint64, do change) (uint64, api.Errno) {
	s, e := goodShape(f, w)
	if e != api.OK {
		return 0, e
	}
	if s.isNaN(w) {
		return s.none(), api.OK
	}
	return do(s, w)
}

// Canon is the word itself, and the canonical NaN of a NaN.
func Canon(f api.Format, w uint64) (uint64, api.Errno) { return changed(f, w, same) }

// Neg is the word with the other sign, and the canonical NaN of a NaN.
func Neg(f api.Format, w uint64) (uint64, api.Errno) { return changed(f, w, turned) }

// Abs is the word with the sign 0, and the canonical NaN of a NaN.
func Abs(f api.Format, w uint64) (uint64, api.Errno) { return changed(f, w, unsigned) }

// CopySign is w with the sign of s, and the canonical NaN, if w is a NaN.
func CopySign(f api.Format, w, s uint64) (uint64, api.Errno) {
	if e := Good(f, s); e != api.OK {
		return 0, e
	}
	return changed(f, w, func(of shape, w uint64) (uint64, api.Errno) {
		return of.signed(of.size(w), of.isNeg(s)), api.OK
	})
}

// Up is the least word above w, -0 of the least number below 0 in size, and the canonical NaN of a NaN.
func Up(f api.Format, w uint64) (uint64, api.Errno) { return changed(f, w, above) }

// Down is the greatest word below w, +0 of the least number above 0, and the canonical NaN of a NaN.
func Down(f api.Format, w uint64) (uint64, api.Errno) { return changed(f, w, below) }

func same(_ shape, w uint64) (uint64, api.Errno) { return w, api.OK }

func turned(s shape, w uint64) (uint64, api.Errno) { return w ^ s.signBit(), api.OK }

func unsigned(s shape, w uint64) (uint64, api.Errno) { return s.size(w), api.OK }

// above goes one size up above nought and one down below it, so that of the sizes next to nought and to infinite nothing else need be said.
func above(s shape, w uint64) (uint64, api.Errno) {
	switch {
	case w == s.infinite():
		return 0, api.ErrNone
	case s.size(w) == 0:
		return 1, api.OK
	case s.isNeg(w):
		return w - 1, api.OK
	}
	return w + 1, api.OK
}

// below is above seen from the other side of nought.
func below(s shape, w uint64) (uint64, api.Errno) {
	up, e := above(s, w^s.signBit())
	if e != api.OK {
		return 0, e
	}
	return up ^ s.signBit(), api.OK
}
