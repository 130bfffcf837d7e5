package soft

import (
	"cutplane/api"
	"cutplane/dyad"
	"cutplane/word"
)

// operand is a word taken apart; its value is 0, if it is not finite.
type operand struct {
	word  uint64
	class api.Class
	neg   bool
	value api.Dyad
}

// operands takes good words apart.
func (w way) operands(words []uint64) []operand {
	list := make([]operand, 0, len(words))
	for _, v := range words {
		class, _ := word.Class(w.format, v)
		fields, _ := word.Split(w.format, v)
		value, _ := word.Value(w.format, v)
		list = append(list, operand{word: v, class: class, neg: fields.Neg, value: value})
	}
	return list
}

// turned is the operand, which is no NaN, with the other sign.
func (w way) turned(x operand) operand {
	x.word, _ = word.Neg(w.format, x.word)
	x.value, _ = dyad.Neg(x.value)
	x.neg = !x.neg
	return x
}

// itself is the operand's word, without flags.
func (x operand) itself() (uint64, api.Flags, api.Errno) { return x.word, 0, api.OK }

// some tells whether one operand at least is of the class.
func some(c api.Class, list ...operand) bool {
	for _, x := range list {
		if x.class == c {
			return true
		}
	}
	return false
}

// every tells whether all operands are of the class.
func every(c api.Class, list ...operand) bool {
	for _, x := range list {
		if x.class != c {
			return false
		}
	}
	return true
}

// signOfTwo tells whether the product of both is below nought.
func signOfTwo(a, b operand) bool { return a.neg != b.neg }
