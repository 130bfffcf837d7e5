package soft

import (
	"cutplane/api"
	"cutplane/dyad"
	"cutplane/round"
	"cutplane/word"
)

// way is how exact numbers become words: a format and a mode.
type way struct {
	format api.Format
	mode   api.Mode
}

// wayFor is the way of a format and a mode for words that are handed in. Which formats and modes there are is asked of the layer that rounds.
func wayFor(f api.Format, m api.Mode, words ...uint64) (way, api.Errno) {
	if _, e := round.Over(f, m, false); e != api.OK {
		return way{}, e
	}
	for _, w := range words {
		if e := word.Good(f, w); e != api.OK {
			return way{}, e
		}
	}
	return way{format: f, mode: m}, api.OK
}

// rounded is the word to which an exact number is rounded, and the flags; of 0 the nought that the mode has for sums. It takes the answer of a call of dyad as it is.
func (w way) rounded(d api.Dyad, e api.Errno) (uint64, api.Flags, api.Errno) {
	if e != api.OK {
		return 0, 0, e
	}
	if dyad.Sign(d) == 0 {
		return w.nought(w.mode == api.ToDown)
	}
	return round.Round(w.format, w.mode, d)
}

// nought is the nought with the sign, without flags.
func (w way) nought(neg bool) (uint64, api.Flags, api.Errno) {
	zero, e := word.Zero(w.format, neg)
	return zero, 0, e
}

// infinite is the infinite word with the sign, and the flags.
func (w way) infinite(neg bool, flags api.Flags) (uint64, api.Flags, api.Errno) {
	inf, e := word.Inf(w.format, neg)
	return inf, flags, e
}

// none is the canonical NaN, and the flags.
func (w way) none(flags api.Flags) (uint64, api.Flags, api.Errno) {
	nan, e := word.None(w.format)
	return nan, flags, e
}
