package deci

import (
	"strconv"
	"strings"

	"cutplane/api"
)

// The texts of what is not finite.
const (
	nanText = "nan"
	infText = "inf"
)

// mostExpDigits is how many digits an exponent has at the most.
const mostExpDigits = 6

// reading is what a decimal text says: NaN, Infinite or Nought, or, with no class, the number; its neg is the text's sign in each case.
type reading struct {
	class  api.Class
	number decimal
}

// read is what the whole text says, if it is a decimal one.
func read(text string) (reading, bool) {
	s := scanner{rest: text}
	says, ok := s.reading()
	return says, ok && s.isAtEnd()
}

// scanner goes through a text.
type scanner struct {
	rest string // what it has not passed
}

func (s *scanner) isAtEnd() bool { return s.rest == "" }

// passes goes past the piece, if that is next, and tells whether it was.
func (s *scanner) passes(piece string) bool {
	rest, found := strings.CutPrefix(s.rest, piece)
	s.rest = rest
	return found
}

// digits goes past all digits that are next.
func (s *scanner) digits() string {
	behind := strings.TrimLeft(s.rest, "0123456789")
	digits := s.rest[:len(s.rest)-len(behind)]
	s.rest = behind
	return digits
}

// reading is what the text says up to where no more of it can belong to that.
func (s *scanner) reading() (reading, bool) {
	neg := s.passes("-")
	switch {
	case !neg && s.passes(nanText):
		return reading{class: api.NaN}, true
	case s.passes(infText):
		return reading{class: api.Infinite, number: decimal{neg: neg}}, true
	}
	number, ok := s.number(neg)
	if number.digits == "" {
		return reading{class: api.Nought, number: number}, ok
	}
	return reading{number: number}, ok
}

// number is digits, perhaps a point and digits, perhaps an exponent.
func (s *scanner) number(neg bool) (decimal, bool) {
	whole, fraction := s.digits(), ""
	if whole == "" {
		return decimal{}, false
	}
	if s.passes(".") {
		if fraction = s.digits(); fraction == "" {
			return decimal{}, false
		}
	}
	exp, ok := s.exponent()
	return formed(neg, whole+fraction, len(whole)-1+exp), ok
}

// exponent is what stands behind an e, 0 if there is none.
func (s *scanner) exponent() (int, bool) {
	if !s.passes("e") {
		return 0, true
	}
	neg := s.passes("-")
	if !neg {
		s.passes("+")
	}
	digits := s.digits()
	if digits == "" || len(digits) > mostExpDigits {
		return 0, false
	}
	exp, _ := strconv.Atoi(digits)
	if neg {
		exp = -exp
	}
	return exp, true
}
