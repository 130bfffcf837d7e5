package deci_test

import (
	"math/big"
	"strings"
	"testing"

	"cutplane/api"
)

// namedTexts is numbers of F64 above 0 whose shortest texts are well known, or stand at an edge.
func namedTexts() map[float64]string {
	return map[float64]string{
		1: "1", 2: "2", 10: "10", 100: "100", 12.5: "12.5", 0.5: "0.5", 0.25: "0.25", 0.1: "0.1", 0.3: "0.3", 0.10000000000000002: "0.10000000000000002",
		0.30000000000000004: "0.30000000000000004", 1.0 / 3: "0.3333333333333333", 2.0 / 3: "0.6666666666666666", 4.35: "4.35",
		3.141592653589793: "3.141592653589793", 123456.789: "123456.789",
		// Both ends of what is written in full, and what lies next to them.
		0.00001: "0.00001", 0.000012: "0.000012", 0.00012: "0.00012", 0.000009: "9e-6", 0.0000099: "9.9e-6", 0.0000099999: "9.9999e-6",
		1e20: "100000000000000000000", 1.2e20: "120000000000000000000", 9.9e20: "990000000000000000000", 1e21: "1e21", 1.2e21: "1.2e21", 1e22: "1e22", 123456789012345680000: "123456789012345680000", 1234567890123456800000: "1.2345678901234568e21",
		1e23: "1e23", 9.999999999999997e22: "9.999999999999997e22", 1.25e-7: "1.25e-7", 1e-7: "1e-7", 1e100: "1e100", 1e-100: "1e-100",
		// Powers of two, below which the words lie closer.
		0x1p-44: "5.684341886080802e-14", 0x1p-24: "5.960464477539063e-8", 0x1p53: "9007199254740992", 0x1p53 - 1: "9007199254740991", 0x1p53 + 2: "9007199254740994", 0x1p64: "18446744073709552000", 0x1p63: "9223372036854776000",
		// Two texts as near: the one whose last digit is even.
		0x1p50 + 0.25: "1125899906842624.2", 0x1p50 + 0.75: "1125899906842624.8", 0x1p50 + 0.5: "1125899906842624.5", 0x1p50 + 1.25: "1125899906842625.2", 0x1p50 + 1.75: "1125899906842625.8",
		// Both ends of the format.
		5e-324: "5e-324", 1e-323: "1e-323", 1.5e-323: "1.5e-323", 2e-323: "2e-323", 2.5e-323: "2.5e-323",
		2.2250738585072014e-308: "2.2250738585072014e-308", 2.225073858507201e-308: "2.225073858507201e-308",
		1.7976931348623157e308: "1.7976931348623157e308", 1.7976931348623155e308: "1.7976931348623155e308",
	}
}

func TestP8_2_Named(t *testing.T) {
	k := table64()
	for x, s := range namedTexts() {
		w := k.bitsOf(x)
		shortest(k, w).is(t, s, "Shortest", k, w)
		shortest(k, w|k.sign).is(t, "-"+s, "Shortest", k, w|k.sign)
	}
}

func TestP8_2_Named32(t *testing.T) {
	k := table32()
	for w, s := range map[uint64]string{
		1: "1e-45", 2: "3e-45", 3: "4e-45", 4: "6e-45", 5: "7e-45", 6: "8e-45", 7: "1e-44", 8: "1.1e-44", 9: "1.3e-44",
		0x007FFFFF: "1.1754942e-38", 0x00800000: "1.1754944e-38", 0x7F7FFFFF: "3.4028235e38", 0x7F7FFFFE: "3.4028233e38",
		0x3F800000: "1", 0x3F7FFFFF: "0.99999994", 0x3F800001: "1.0000001", 0x3DCCCCCD: "0.1", 0x4B800000: "16777216", 0x4B800001: "16777218",
		0x60AD78EC: "100000000000000000000", 0x6258D727: "1e21", 0x3727C5AC: "0.00001", 0x3727C5AB: "9.999999e-6", 0x501502F9: "10000000000", 0x5F000000: "9223372000000000000",
	} {
		shortest(k, w).is(t, s, "Shortest", k, w)
		shortest(k, w|k.sign).is(t, "-"+s, "Shortest", k, w|k.sign)
	}
}

// TestP8_2_Special: what has no digits.
func TestP8_2_Special(t *testing.T) {
	for _, k := range tables() {
		for w, s := range k.special() {
			shortest(k, w).is(t, s, "Shortest", k, w)
		}
	}
}

// checkShortest holds the texts of a word above 0 and its mirror against the model; they are parsed as the words.
func checkShortest(t *testing.T, k table, w uint64) {
	t.Helper()
	x := k.fewest(w)
	for _, signed := range k.signed(w) {
		g := shortest(k, signed)
		g.isPlain(t, x, "Shortest", k, signed)
		if p := parse(k.f, api.ToEven, g.text); p.word != signed || p.err != api.OK {
			t.Fatalf("Parse, format %d, of the shortest text %q of %x: %x error %d", k.f, g.text, signed, p.word, p.err)
		}
		x = new(big.Rat).Neg(x)
	}
}

// TestP8_2_Model: words of all fields and about their ends, and thrown ones.
func TestP8_2_Model(t *testing.T) {
	d := dice(84)
	for _, k := range tables() {
		for i, w := range k.edges() {
			if k.f == api.F32 || i < 300 || i%7 == 0 {
				checkShortest(t, k, w)
			}
		}
		for range 400 {
			checkShortest(t, k, k.thrown(&d))
			checkShortest(t, k, d.next()%k.step()>>d.below(k.precision-2)+1)
		}
	}
}

// TestP8_2_Ties: quarters of numbers whose words have no finer unit: two texts of one digit behind the point are as near.
func TestP8_2_Ties(t *testing.T) {
	for _, k := range tables() {
		d := dice(85)
		for range 200 {
			w := k.power(k.precision-3) + d.next()%k.step() | 1
			checkShortest(t, k, w)
			text := shortest(k, w).text
			if last := text[len(text)-1]; last != '2' && last != '8' {
				t.Fatalf("Shortest, format %d, of %x: %q does not end even", k.f, w, text)
			}
		}
	}
}

// candidate is a number of a few digits, the first and the last of which are not 0.
type candidate struct {
	digits int64
	value  *big.Rat
}

// candidates is all numbers of so many digits that are of about the size 10^-45 to 10^-43.
func candidates(n int) []candidate {
	var list []candidate
	for digits := power(10, n-1).Num().Int64(); digits < power(10, n).Num().Int64(); digits++ {
		for e := -46; e <= -42 && digits%10 != 0; e++ {
			list = append(list, candidate{digits, times(new(big.Rat).SetInt64(digits), power(10, e-n+1))})
		}
	}
	return list
}

// best is the one that the span has that is nearest to x, of two the one whose last digit is even, or nil.
func best(s span, x *big.Rat, list []candidate) *candidate {
	var found *candidate
	off := func(c *candidate) *big.Rat { return size(new(big.Rat).Sub(c.value, x)) }
	for i := range list {
		c := &list[i]
		if !s.has(c.value) {
			continue
		}
		if found == nil || off(c).Cmp(off(found)) < 0 || off(c).Cmp(off(found)) == 0 && c.digits%2 == 0 {
			found = c
		}
	}
	return found
}

// TestP8_2_Least: among the least words, which lie far apart, all numbers with few digits are gone over.
func TestP8_2_Least(t *testing.T) {
	k := table32()
	var lists [][]candidate
	for n := range 3 {
		lists = append(lists, candidates(n+1))
	}
	for w := uint64(1); w <= 60; w++ {
		for _, list := range lists {
			if c := best(k.span(w), k.value(w), list); c != nil {
				shortest(k, w).isPlain(t, c.value, "Shortest", k, w)
				break
			}
		}
	}
}

// digitsOf is how many digits a number's text has, from the first to the last one that is not 0.
func digitsOf(text string) int {
	text, _, _ = strings.Cut(strings.TrimPrefix(text, "-"), "e")
	return len(strings.Trim(strings.Replace(text, ".", "", 1), "0"))
}

// TestP8_2_Fewest: with one digit less, however it is taken, no text is parsed as the word, and none with as many is nearer.
func TestP8_2_Fewest(t *testing.T) {
	d := dice(86)
	for _, k := range tables() {
		for range 300 {
			w := k.thrown(&d)
			n := digitsOf(shortest(k, w).text)
			for fewer := 1; fewer < n; fewer++ {
				for _, m := range modes() {
					s := show(k, m, w, fewer).text
					if parse(k.f, api.ToEven, s).word == w {
						t.Fatalf("Shortest, format %d, of %x: %q has fewer digits", k.f, w, s)
					}
				}
			}
			near := show(k, api.ToEven, w, n).text
			if parse(k.f, api.ToEven, near).word == w {
				shortest(k, w).is(t, near, "Shortest", k, w)
			}
		}
	}
}
