package deci_test

import (
	"math/big"
	"strconv"
	"strings"
	"testing"

	"cutplane/api"
)

// TestP8_1_Special: what is no number, in each mode, without flags.
func TestP8_1_Special(t *testing.T) {
	for _, k := range tables() {
		for _, m := range modes() {
			checkParse(t, k, m, "nan", k.nan, 0)
			checkParse(t, k, m, "inf", k.inf, 0)
			checkParse(t, k, m, "-inf", k.inf|k.sign, 0)
		}
	}
}

// TestP8_1_Noughts: each text of 0 is a nought with the text's sign, whatever the mode and the exponent are.
func TestP8_1_Noughts(t *testing.T) {
	texts := []string{
		"0", "00", "0.0", "000.000", "0e0", "0e5", "0e-5", "0e+5", "0.00e999999", "0e-999999", "00e000000",
		strings.Repeat("0", 1200), "0." + strings.Repeat("0", 1198), "0." + strings.Repeat("0", 1190) + "e-999999",
	}
	for _, k := range tables() {
		for _, m := range modes() {
			for _, s := range texts {
				checkParse(t, k, m, s, 0, 0)
				if len(s) < api.MaxText {
					checkParse(t, k, m, "-"+s, k.sign, 0)
				}
			}
		}
	}
}

// row is what the modes ToEven, ToAway, ToZero, ToUp, ToDown answer of a text of F32 above 0, worked out by hand.
type row struct {
	text  string
	words [5]uint64
	flags [5]api.Flags
}

func same5(f api.Flags) [5]api.Flags { return [5]api.Flags{f, f, f, f, f} }

func all5(w uint64) [5]uint64 { return [5]uint64{w, w, w, w, w} }

// up5 is the word w, and the next one in the mode ToUp.
func up5(w uint64) [5]uint64 { return [5]uint64{w, w, w, w + 1, w} }

// near5 is the next word, and w in the modes ToZero and ToDown.
func near5(w uint64) [5]uint64 { return [5]uint64{w + 1, w + 1, w, w + 1, w} }

// half5 is what is told of a number half way between w, which is even, and the next word.
func half5(w uint64) [5]uint64 { return [5]uint64{w, w + 1, w, w + 1, w} }

func rows() []row {
	const one, great = 0x3F800000, 0x7F7FFFFF
	const low = 0x007FFFFF // the greatest subnormal word
	over5 := [5]uint64{great + 1, great + 1, great, great + 1, great}
	inexact, under, over := same5(api.Inexact), same5(bothUnder), same5(bothOver)
	return []row{
		{"1", all5(one), same5(0)},
		{"0001.000", all5(one), same5(0)},
		{"1e0", all5(one), same5(0)},
		{"10e-1", all5(one), same5(0)},
		{"0.1e+1", all5(one), same5(0)},
		{"0.5", all5(0x3F000000), same5(0)},
		{"12.5", all5(0x41480000), same5(0)},
		{"0.1", near5(0x3DCCCCCC), inexact},
		{"0.3", near5(0x3E999999), inexact},
		{"16777216", all5(0x4B800000), same5(0)},
		{"16777217", half5(0x4B800000), inexact},
		{"16777216.999", up5(0x4B800000), inexact},
		{"16777217.001", near5(0x4B800000), inexact},
		{"16777219", [5]uint64{0x4B800002, 0x4B800002, 0x4B800001, 0x4B800002, 0x4B800001}, inexact},
		{"1.000000059604644775390625", half5(one), inexact},
		{"1.0000000596046447753906249999", up5(one), inexact},
		{"1.0000000596046447753906250001", near5(one), inexact},
		{"340282346638528859811704183484516925440", all5(great), same5(0)},
		{"340282356779733661637539395458142568447", up5(great), [5]api.Flags{api.Inexact, api.Inexact, api.Inexact, bothOver, api.Inexact}},
		{"340282356779733661637539395458142568448", over5, [5]api.Flags{bothOver, bothOver, api.Inexact, bothOver, api.Inexact}},
		{"340282366920938463463374607431768211456", over5, over},
		{"3.5e38", over5, over},
		{"1e39", over5, over},
		{"1e999999", over5, over},
		{"1.17549435082e-38", near5(low), [5]api.Flags{api.Inexact, api.Inexact, bothUnder, api.Inexact, bothUnder}},
		{"1.1754943e-38", near5(low), [5]api.Flags{bothUnder, bothUnder, bothUnder, api.Inexact, bothUnder}},
		{"1.1754942e-38", near5(low - 1), under},
		{"1e-45", near5(0), under},
		{"7.1e-46", near5(0), under},
		{"7e-46", up5(0), under},
		{"1e-60", up5(0), under},
		{"1e-999999", up5(0), under},
	}
}

// TestP8_1_Rows: ordinary texts, half ways, both ends, in each mode and with either sign.
func TestP8_1_Rows(t *testing.T) {
	k := table32()
	for _, r := range rows() {
		for i, m := range modes() {
			checkParse(t, k, m, r.text, r.words[i], r.flags[i])
			checkParse(t, k, mirror(m), "-"+r.text, r.words[i]|k.sign, r.flags[i])
		}
	}
}

// checkNumber holds Parse of a number's text, not 0, against the model in each mode, and against the library.
func checkNumber(t *testing.T, k table, s string) {
	t.Helper()
	x := fraction(s)
	for _, m := range modes() {
		w, flags := k.rounded(x, m)
		checkParse(t, k, m, s, w, flags)
	}
	bits := 32
	if k.f == api.F64 {
		bits = 64
	}
	near, _ := strconv.ParseFloat(s, bits) // Its error tells that the number is too great; the float is infinite then.
	if g := parse(k.f, api.ToEven, s); g.word != k.bitsOf(near) {
		t.Fatalf("Parse, format %d, of %q: %x, the library has %x", k.f, short(s), g.word, k.bitsOf(near))
	}
}

// number is a text of a number, with perhaps a sign, noughts ahead, a point, an exponent; about is where its first digit stands, as a power of ten.
func (d *dice) number(about, far int) string {
	digits := d.text("0123456789", d.below(45)) + d.text("123456789", 1)
	digits = strings.Repeat("0", max(0, d.below(6)-3)) + digits
	ahead := 1 + d.below(len(digits))
	s := []string{"", "-"}[d.below(2)] + digits[:ahead]
	if ahead < len(digits) {
		s += "." + digits[ahead:]
	}
	exp := about - far + d.below(2*far+1) - ahead
	if exp == 0 {
		return s
	}
	sign := ""
	if exp > 0 {
		sign = []string{"", "+"}[d.below(2)]
	}
	return s + "e" + sign + strconv.Itoa(exp)
}

// TestP8_1_Thrown: numbers of all sizes, and about both ends of the formats and the least normal numbers.
func TestP8_1_Thrown(t *testing.T) {
	d := dice(81)
	for range 1500 {
		for _, about := range [][2]int{{0, 48}, {-38, 3}, {-45, 3}, {38, 3}} {
			checkNumber(t, table32(), d.number(about[0], about[1]))
		}
	}
	for range 400 {
		for _, about := range [][2]int{{0, 20}, {0, 340}, {-308, 3}, {-324, 3}, {308, 3}} {
			checkNumber(t, table64(), d.number(about[0], about[1]))
		}
	}
}

// TestP8_1_HalfWay: texts half way between two words, with all their digits, and those that have a 1 more far behind.
func TestP8_1_HalfWay(t *testing.T) {
	d := dice(82)
	for _, k := range tables() {
		words := []uint64{1, 2, k.step() - 1, k.step(), k.power(0), k.power(0) - 1, k.inf - 2, k.inf - 1}
		for range 60 {
			words = append(words, k.thrown(&d))
		}
		for _, w := range words {
			s := k.span(w)
			for _, x := range []*big.Rat{s.from, s.to} {
				places := x.Denom().BitLen() - 1 // A power of two has as many behind the point as it has bits there.
				const far = 20
				tail := power(10, -places-far)
				checkNumber(t, k, x.FloatString(places))
				checkNumber(t, k, new(big.Rat).Add(x, tail).FloatString(places+far))
				checkNumber(t, k, new(big.Rat).Sub(x, tail).FloatString(places+far))
			}
		}
	}
}

// TestP8_1_Exponents: signs, noughts ahead and as many digits as may be; what stands ahead of the e may make up for it.
func TestP8_1_Exponents(t *testing.T) {
	noughts := func(n int) string { return strings.Repeat("0", n) }
	one := []string{
		"1", "1e0", "1e-0", "1e+0", "1e000000", "1e-000000", "1e+000000", "10e-1", "10e-000001", "0.1e1", "0.1e+1", "0.1e+000001",
		"1" + noughts(1100) + "e-1100", "1" + noughts(1100) + "." + noughts(80) + "e-001100",
		"0." + noughts(1099) + "1e1100", "0." + noughts(1099) + "1e+1100", noughts(1190) + "1.0e0",
	}
	for _, k := range tables() {
		for _, m := range modes() {
			for _, s := range one {
				checkParse(t, k, m, s, k.power(0), 0)
				checkParse(t, k, m, "-"+s, k.power(0)|k.sign, 0)
			}
		}
	}
}

// TestP8_1_FarEnds: numbers beyond both ends, by a little and as far as texts go.
func TestP8_1_FarEnds(t *testing.T) {
	nines := strings.Repeat("9", 1190)
	great := []string{"1e309", "1.8e308", "9e399", "1e400", "1e401", "1e5000", "9.99e999999", nines, nines + "e999999", "0." + nines + "e309", "0." + strings.Repeat("0", 800) + "1e999999"}
	small := []string{"2e-324", "1e-324", "9e-399", "1e-399", "1e-400", "1e-401", "1e-5000", "9.99e-999999", nines + "e-999999", "0." + nines + "e-324", "0." + strings.Repeat("0", 800) + "1"}
	for _, k := range tables() {
		for _, m := range modes() {
			for _, sign := range []string{"", "-"} {
				neg := uint64(len(sign)) * k.sign
				for _, s := range great {
					checkParse(t, k, m, sign+s, k.over(m, neg), bothOver)
				}
				for _, s := range small {
					outward := uint64(0)
					if m == api.ToUp && neg == 0 || m == api.ToDown && neg != 0 {
						outward = 1
					}
					checkParse(t, k, m, sign+s, outward|neg, bothUnder)
				}
			}
		}
	}
}

// TestP8_1_AllDigits: no digit of a long text is left out.
func TestP8_1_AllDigits(t *testing.T) {
	k := table64()
	zeros := strings.Repeat("0", 1196)
	checkParse(t, k, api.ToUp, "1."+zeros+"1", k.power(0)+1, api.Inexact)
	checkParse(t, k, api.ToDown, "1."+zeros+"1", k.power(0), api.Inexact)
	checkParse(t, k, api.ToDown, "0."+strings.Repeat("9", 1198), k.power(0)-1, api.Inexact)
	checkParse(t, k, api.ToEven, "0."+strings.Repeat("9", 1198), k.power(0), api.Inexact)
	half := "9007199254740993." // half way between two words, the lower one even
	zeros = strings.Repeat("0", api.MaxText-len(half)-1)
	checkParse(t, k, api.ToEven, half+zeros+"0", k.power(53), api.Inexact)
	checkParse(t, k, api.ToEven, half+zeros+"1", k.power(53)+1, api.Inexact)
}
