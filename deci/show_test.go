package deci_test

import (
	"math"
	"math/big"
	"strings"
	"testing"

	"cutplane/api"
)

// shownRow is what the modes ToEven, ToAway, ToZero, ToUp, ToDown show of a number of F64 above 0 with n digits, worked out by hand.
type shownRow struct {
	x     float64
	n     int
	texts [5]string
}

func same5Texts(s string) [5]string { return [5]string{s, s, s, s, s} }

// halfTexts is what is shown half way between two numbers, of which the lower one is even.
func halfTexts(lower, upper string) [5]string { return [5]string{lower, upper, lower, upper, lower} }

// nearTexts is what is shown of a number nearer to the upper one.
func nearTexts(lower, upper string) [5]string { return [5]string{upper, upper, lower, upper, lower} }

// farTexts is what is shown of a number nearer to the lower one.
func farTexts(lower, upper string) [5]string { return [5]string{lower, lower, lower, upper, lower} }

func shownRows() []shownRow {
	return []shownRow{
		{12, 1, farTexts("10", "20")}, {12, 2, same5Texts("12")}, {12, 3, same5Texts("12")}, {12, 800, same5Texts("12")},
		{15, 1, [5]string{"20", "20", "10", "20", "10"}}, {25, 1, halfTexts("20", "30")}, {35, 1, nearTexts("30", "40")},
		{25.0625, 1, nearTexts("20", "30")}, {24.9375, 1, farTexts("20", "30")}, {25.0625, 5, halfTexts("25.062", "25.063")},
		{0.1, 1, farTexts("0.1", "0.2")}, {0.1, 3, farTexts("0.1", "0.101")}, {0.1, 16, farTexts("0.1", "0.1000000000000001")},
		{0.1, 17, nearTexts("0.1", "0.10000000000000001")}, {0.1, 18, nearTexts("0.100000000000000005", "0.100000000000000006")},
		{0.1, 55, same5Texts("0.1000000000000000055511151231257827021181583404541015625")},
		{0.1, 54, halfTexts("0.100000000000000005551115123125782702118158340454101562", "0.100000000000000005551115123125782702118158340454101563")},
		{0.3, 1, nearTexts("0.2", "0.3")}, {0.3, 16, nearTexts("0.2999999999999999", "0.3")}, {0.3, 17, nearTexts("0.29999999999999998", "0.29999999999999999")},
		// A text that comes to a power of ten has its one digit.
		{9.5, 1, nearTexts("9", "10")}, {9.75, 2, nearTexts("9.7", "9.8")}, {9.9375, 2, farTexts("9.9", "10")}, {99.96875, 3, nearTexts("99.9", "100")}, {0.96875, 1, nearTexts("0.9", "1")}, {0.9990234375, 2, nearTexts("0.99", "1")},
		{8.5, 1, halfTexts("8", "9")}, {1.5, 1, nearTexts("1", "2")},
		// What is shown in full hangs on what is taken, not on the value.
		{999999999999999868928, 3, nearTexts("999000000000000000000", "1e21")}, {999999999999999868928, 18, nearTexts("999999999999999868000", "999999999999999869000")}, {1e21, 5, same5Texts("1e21")}, {1.25e21, 2, halfTexts("1.2e21", "1.3e21")},
		{0x1p-17, 1, nearTexts("7e-6", "8e-6")}, {0x1.4f8b588e368fp-17, 1, nearTexts("9e-6", "0.00001")}, {0x1p-16, 2, farTexts("0.000015", "0.000016")},
		{5e-324, 1, nearTexts("4e-324", "5e-324")}, {5e-324, 2, farTexts("4.9e-324", "5e-324")},
		{math.MaxFloat64, 1, nearTexts("1e308", "2e308")}, {math.MaxFloat64, 17, farTexts("1.7976931348623157e308", "1.7976931348623158e308")},
	}
}

// TestP8_4_Rows: each row, in each mode and with either sign.
func TestP8_4_Rows(t *testing.T) {
	k := table64()
	for _, r := range shownRows() {
		w := k.bitsOf(r.x)
		for i, m := range modes() {
			show(k, m, w, r.n).is(t, r.texts[i], "Show", k, m, w, r.n)
			show(k, mirror(m), w|k.sign, r.n).is(t, "-"+r.texts[i], "Show", k, m, w|k.sign, r.n)
		}
	}
}

// TestP8_4_Special: what has no digits, whatever the mode and the number of digits are.
func TestP8_4_Special(t *testing.T) {
	for _, k := range tables() {
		for w, s := range k.special() {
			for _, m := range modes() {
				for _, n := range []int{1, 2, 799, 800} {
					show(k, m, w, n).is(t, s, "Show", k, m, w, n)
				}
			}
		}
	}
}

// TestP8_4_Range: digits from 1 to 800 are shown; any other number of them is refused, whatever the word is.
func TestP8_4_Range(t *testing.T) {
	for _, k := range tables() {
		words := []uint64{0, k.sign, 1, k.power(0), k.inf - 1, k.inf, k.inf | k.sign, k.nan, k.full}
		for _, m := range modes() {
			for _, w := range words {
				for _, n := range []int{0, -1, -2, -800, 801, 802, 1 << 20, 1 << 32, 1<<32 + 1, math.MaxInt, math.MinInt, math.MinInt + 1} {
					show(k, m, w, n).refused(t, api.ErrRange, "Show", k.f, m, w, n)
				}
				for n := 1; n <= 800; n += 17 {
					if g := show(k, m, w, n); g.err != api.OK || g.text == "" {
						t.Fatalf("Show, format %d, of %x, %d digits: %q error %d", k.f, w, n, g.text, g.err)
					}
				}
			}
		}
	}
}

// checkShow holds Show of a word above 0 and of its mirror against the model, in each mode.
func checkShow(t *testing.T, k table, w uint64, n int) {
	t.Helper()
	for _, signed := range k.signed(w) {
		for _, m := range modes() {
			show(k, m, signed, n).isPlain(t, shown(k.value(signed), m, n), "Show", k, m, signed, n)
		}
	}
}

// TestP8_4_Model: words of all fields and about their ends, and thrown ones, with few digits and with many.
func TestP8_4_Model(t *testing.T) {
	d := dice(88)
	for _, k := range tables() {
		for i, w := range k.edges() {
			if k.f == api.F32 || i < 30 || i%20 == 0 {
				checkShow(t, k, w, 1+i%20)
			}
		}
		for range 300 {
			checkShow(t, k, k.thrown(&d), 1+d.below(20))
			checkShow(t, k, k.power(-20)+d.next()%(100*k.step()), 1+d.below(25))
		}
		for range 20 {
			checkShow(t, k, k.thrown(&d), 1+d.below(800))
		}
	}
}

// TestP8_4_HalfWay: whole numbers and quarters that end with a 5, and those next to them, taken to one digit less.
func TestP8_4_HalfWay(t *testing.T) {
	k := table64()
	for i := range 500 {
		for _, x := range []float64{float64(10*i + 5), float64(i) + 0.5, float64(i) + 0.25, float64(i) + 0.75} {
			w := k.bitsOf(x)
			n := digitsOf(exact(k, w).text) - 1
			if n < 1 {
				continue
			}
			for _, near := range []uint64{w - 1, w, w + 1} {
				checkShow(t, k, near, n)
			}
		}
	}
}

// TestP8_4_AllDigits: with as many digits as a value has, nothing is taken off; with one less the mode is to be seen.
func TestP8_4_AllDigits(t *testing.T) {
	k := table64()
	for _, w := range []uint64{k.step() - 1, k.step() + 1, 2*k.step() - 1, k.power(-1022) - 3} {
		all := digitsOf(exact(k, w).text)
		if all < 760 || all > 800 {
			t.Fatalf("Exact of %x has %d digits", w, all)
		}
		for _, n := range []int{all, all + 1, 800} {
			for _, m := range modes() {
				show(k, m, w, n).isPlain(t, k.value(w), "Show", k, m, w, n)
			}
		}
		lower, upper := fraction(show(k, api.ToDown, w, all-1).text), fraction(show(k, api.ToUp, w, all-1).text)
		if gap := new(big.Rat).Sub(upper, lower); gap.Cmp(power(10, expOf(k.value(w), 10)-all+2)) != 0 {
			t.Fatalf("Show of %x, %d digits: the neighbours are %s apart", w, all-1, gap.FloatString(1100))
		}
	}
	least := show(k, api.ToEven, 1, 800).text
	if !strings.HasSuffix(least, "e-324") || digitsOf(least) != 751 {
		t.Fatalf("Show of the least: %q", least)
	}
}
