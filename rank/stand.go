package rank

import (
	"cmp"
	"math"

	"cutplane/api"
	"cutplane/word"
)

// stand is where a word stands among those of its format.
type stand struct {
	word  uint64 // the canonical NaN of a NaN
	nan   bool
	neg   bool
	place int64 // 0 of a NaN
}

// standOf is where the word stands, if the format has it.
func standOf(f api.Format, w uint64) (stand, api.Errno) {
	class, e := word.Class(f, w)
	if e != api.OK {
		return stand{}, e
	}
	if class == api.NaN {
		nan, e := word.None(f)
		return stand{word: nan, nan: true}, e
	}
	fields, _ := word.Split(f, w)
	size, _ := word.Abs(f, w)
	place := int64(size)
	if fields.Neg {
		place = -place
	}
	return stand{word: w, neg: fields.Neg, place: place}, api.OK
}

// standsOf is where two words stand.
func standsOf(f api.Format, a, b uint64) (x, y stand, e api.Errno) {
	if x, e = standOf(f, a); e != api.OK {
		return stand{}, stand{}, e
	}
	if y, e = standOf(f, b); e != api.OK {
		return stand{}, stand{}, e
	}
	return x, y, api.OK
}

// height is a number whose order is the total one. What has the sign 1 is one lower than its place, for -0 is below +0 there; no place is as high as a NaN's.
func (x stand) height() int64 {
	switch {
	case x.nan:
		return math.MaxInt64
	case x.neg:
		return x.place - 1
	}
	return x.place
}

// side is an end of the total order, told as the comparison of what lies nearer to it with another.
type side int

const (
	lower  side = -1
	higher side = 1
)

// extreme is the one of both words that is nearer to that end of the total order; a NaN gives way to the other one.
func extreme(f api.Format, end side, a, b uint64) (uint64, api.Errno) {
	x, y, e := standsOf(f, a, b)
	switch {
	case e != api.OK:
		return 0, e
	case x.nan:
		return y.word, api.OK
	case y.nan || side(cmp.Compare(x.height(), y.height())) == end:
		return x.word, api.OK
	}
	return y.word, api.OK
}

// apart is how far two places are apart. From one infinite word to the other that is more than an int64 holds, but a difference that wraps round is right as a uint64.
func apart(from, to int64) uint64 { return uint64(max(from, to)) - uint64(min(from, to)) }

// wordFrom is the word that is n places above that place, or ErrRange.
func wordFrom(f api.Format, place, n int64) (uint64, api.Errno) {
	inf, e := word.Inf(f, false)
	if e != api.OK {
		return 0, e
	}
	end, far := int64(inf), uint64(n)
	if n < 0 {
		end, far = -end, -far
	}
	if far > apart(place, end) {
		return 0, api.ErrRange
	}
	return wordAt(f, place+n)
}

// wordAt is the word of a place, +0 of the place 0.
func wordAt(f api.Format, place int64) (uint64, api.Errno) {
	if place < 0 {
		return word.Neg(f, uint64(-place))
	}
	return uint64(place), api.OK
}
