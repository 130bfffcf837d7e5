package deci

import (
	"strconv"
	"strings"

	"cutplane/api"
	"cutplane/dyad"
	"cutplane/nat"
	"cutplane/round"
)

// decimal is the number d1.d2..dn times 10^exp, below 0 if neg: digits is d1 to dn, of which neither the first nor the last one is 0. Of 0 there are no digits.
//
// All numbers that are reckoned here are far from the bounds of the layers below, so their errors are left out.
type decimal struct {
	neg    bool
	digits string
	exp    int
}

// formed is the number whose digits are told, the first one ahead of the point, times 10^exp; noughts may stand at both ends.
func formed(neg bool, digits string, exp int) decimal {
	tail := strings.TrimLeft(digits, "0")
	exp -= len(digits) - len(tail)
	return decimal{neg: neg, digits: strings.TrimRight(tail, "0"), exp: exp}
}

// decimalOf is the value of a word, not 0: a half is five tenths, so each power of two has its digits.
func decimalOf(value api.Dyad) decimal {
	halves := max(-value.Exp, 0)
	mag, _, _ := nat.Shift(value.Mag, max(value.Exp, 0))
	mag, _ = nat.Mul(mag, powerOfFive(halves))
	digits, _ := nat.Text(mag)
	return formed(value.Neg, digits, len(digits)-1-halves)
}

func powerOfFive(n int) []uint32 {
	power, _ := nat.Power(5, n)
	return power
}

// farExp is an exponent that leads past both ends of the formats, also with the other sign: what is rounded is the same for all beyond it.
const farExp = 400

// rounded is the word to which the number, not 0, is rounded, and the flags.
func (d decimal) rounded(f api.Format, m api.Mode) (uint64, api.Flags, api.Errno) {
	tens := max(-farExp, min(d.exp, farExp)) - (len(d.digits) - 1)
	mag, _ := nat.Parse(d.digits)
	number, _ := dyad.Make(d.neg, mag, tens)
	fives, _ := dyad.Make(false, powerOfFive(max(tens, -tens)), 0)
	if tens < 0 {
		return round.Quo(f, m, number, fives)
	}
	product, _ := dyad.Mul(number, fives)
	return round.Round(f, m, product)
}

// shortest is the number with the fewest digits that isWord accepts, of these the one that is nearest to d, of two the one whose last digit is even; d itself is accepted.
//
// With n digits only the two neighbours of d need be asked: who accepts a number accepts all between that and d, and beyond a power of ten, which has one digit, nobody need look.
func (d decimal) shortest(isWord func(candidate decimal) bool) decimal {
	for n := range len(d.digits) {
		for _, m := range []api.Mode{api.ToEven, api.ToDown, api.ToUp} {
			if candidate := d.taken(m, n+1); isWord(candidate) {
				return candidate
			}
		}
	}
	return d
}

// taken is the number, not 0, taken to n digits.
func (d decimal) taken(m api.Mode, n int) decimal {
	if n >= len(d.digits) {
		return d
	}
	kept := d.digits[:n]
	if !d.goesOutward(m, n) {
		return formed(d.neg, kept, d.exp)
	}
	mag, _ := nat.Parse(kept)
	mag, _ = nat.Add(mag, nat.Of(1))
	next, _ := nat.Text(mag)
	return formed(d.neg, next, d.exp+len(next)-n)
}

// goesOutward tells whether of both neighbours with n digits, less than d has, the one that is greater in size is taken.
func (d decimal) goesOutward(m api.Mode, n int) bool {
	// Since the last digit is not 0, the digits that go out stand to a half as their text stands to its one digit.
	half := strings.Compare(d.digits[n:], "5")
	isOdd := (d.digits[n-1]-'0')%2 == 1
	switch m {
	case api.ToEven:
		return half > 0 || half == 0 && isOdd
	case api.ToAway:
		return half >= 0
	case api.ToUp:
		return !d.neg
	case api.ToDown:
		return d.neg
	}
	return false
}

// The exponents of the numbers that the plain form writes in full.
const (
	leastFull = -5
	mostFull  = 20
)

// plain is the plain form of the number, not 0.
func (d decimal) plain() string {
	if leastFull <= d.exp && d.exp <= mostFull {
		return d.full()
	}
	text := d.digits[:1]
	if len(d.digits) > 1 {
		text += "." + d.digits[1:]
	}
	return signed(d.neg, text+"e"+strconv.Itoa(d.exp))
}

// full is the number, not 0, without an exponent.
func (d decimal) full() string {
	ahead := d.exp + 1 // digits ahead of the point
	switch {
	case ahead <= 0:
		return signed(d.neg, "0."+noughts(-ahead)+d.digits)
	case ahead < len(d.digits):
		return signed(d.neg, d.digits[:ahead]+"."+d.digits[ahead:])
	}
	return signed(d.neg, d.digits+noughts(ahead-len(d.digits)))
}

func noughts(n int) string { return strings.Repeat("0", n) }

// signed is the text, with - ahead, if neg.
func signed(neg bool, text string) string {
	if neg {
		return "-" + text
	}
	return text
}
