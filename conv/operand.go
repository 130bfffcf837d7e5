package conv

import (
	"cutplane/api"
	"cutplane/dyad"
	"cutplane/round"
	"cutplane/word"
)

// wrongAsk tells the error of what a call with a mode is handed: its formats, of which the word's is the first, the mode, the word.
func wrongAsk(m api.Mode, w uint64, formats ...api.Format) api.Errno {
	for _, f := range formats {
		if _, e := word.None(f); e != api.OK {
			return e
		}
	}
	// Which modes there are is asked of the layer that rounds.
	if _, e := round.Over(formats[0], m, false); e != api.OK {
		return e
	}
	return word.Good(formats[0], w)
}

// operand is a good word taken apart; its value is 0, if it is not finite.
type operand struct {
	format api.Format
	class  api.Class
	neg    bool
	value  api.Dyad
}

// operandOf takes a good word apart.
func operandOf(f api.Format, w uint64) operand {
	class, _ := word.Class(f, w)
	fields, _ := word.Split(f, w)
	value, _ := word.Value(f, w)
	return operand{format: f, class: class, neg: fields.Neg, value: value}
}

func (x operand) isFinite() bool { return x.class != api.NaN && x.class != api.Infinite }

// signedWord is the word of the operand's format that has the value d; a nought has the operand's sign.
func (x operand) signedWord(d api.Dyad) (uint64, api.Errno) {
	if dyad.Sign(d) == 0 {
		return word.Zero(x.format, x.neg)
	}
	return word.Of(x.format, d)
}

// plain is the answer of a call of layer word, without flags.
func plain(w uint64, e api.Errno) (uint64, api.Flags, api.Errno) { return w, 0, e }

// change makes a word, with flags, of a finite operand that is no nought.
type change func(x operand) (uint64, api.Flags, api.Errno)

// remade is what do makes of the operand; a NaN, an infinite word, a nought is told as what it is, as a word of g.
func remade(x operand, g api.Format, do change) (uint64, api.Flags, api.Errno) {
	switch x.class {
	case api.NaN:
		return plain(word.None(g))
	case api.Infinite:
		return plain(word.Inf(g, x.neg))
	case api.Nought:
		return plain(word.Zero(g, x.neg))
	}
	return do(x)
}
