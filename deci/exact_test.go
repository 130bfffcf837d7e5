package deci_test

import (
	"regexp"
	"strconv"
	"strings"
	"testing"

	"cutplane/api"
)

// leastDigits is the digits of 2^-149, which are those of 5^149.
const leastDigits = "140129846432481707092372958328991613128026194187651577175706828388979108268586060148663818836212158203125"

// TestP8_3_Named: exact texts of both formats, worked out by hand or well known.
func TestP8_3_Named(t *testing.T) {
	k, g := table32(), table64()
	for w, s := range map[uint64]string{
		0x3F800000: "1", 0x3F000000: "0.5", 0x3E000000: "0.125", 0x41480000: "12.5", 0x42C80000: "100",
		0x3DCCCCCD: "0.100000001490116119384765625", 0x4B7FFFFF: "16777215", 0x4B800001: "16777218",
		0x7F7FFFFF: "340282346638528859811704183484516925440",
		0x60AD78EC: "100000002004087734272", 0x6258D727: "1000000020040877342720",
		0x00800000: "0." + strings.Repeat("0", 37) + "11754943508222875079687365372222456778186655567720875215087517062784172594547271728515625",
		0x00000001: "0." + strings.Repeat("0", 44) + leastDigits,
	} {
		exact(k, w).is(t, s, "Exact", k, w)
		exact(k, w|k.sign).is(t, "-"+s, "Exact", k, w|k.sign)
	}
	for x, s := range map[float64]string{
		0.1:  "0.1000000000000000055511151231257827021181583404541015625",
		1e23: "99999999999999991611392", 1e21: "1000000000000000000000", 0x1p-20: "0.00000095367431640625", 0x1p100: "1267650600228229401496703205376",
	} {
		exact(g, g.bitsOf(x)).is(t, s, "Exact", g, g.bitsOf(x))
		exact(g, g.bitsOf(-x)).is(t, "-"+s, "Exact", g, g.bitsOf(-x))
	}
}

// TestP8_3_Special: what has no digits.
func TestP8_3_Special(t *testing.T) {
	for _, k := range tables() {
		for w, s := range k.special() {
			exact(k, w).is(t, s, "Exact", k, w)
		}
	}
}

// inFull is a finite word's value without an exponent, as the library has it: with more places than any word has, less the noughts behind.
func (k table) inFull(w uint64) string {
	s := strconv.FormatFloat(k.float(w), 'f', 1-k.least, 64)
	return strings.TrimRight(strings.TrimRight(s, "0"), ".")
}

// checkExact holds a word's text against the library and the rule of its form; in every mode it is parsed as the word, without flags.
func checkExact(t *testing.T, k table, w uint64) {
	t.Helper()
	g := exact(k, w)
	g.is(t, k.inFull(w), "Exact", k, w)
	if !regexp.MustCompile(fullForm).MatchString(g.text) || fraction(g.text).Cmp(k.value(w)) != 0 {
		t.Fatalf("Exact, format %d, of %x: %q", k.f, w, short(g.text))
	}
	for _, m := range modes() {
		checkParse(t, k, m, g.text, w, 0)
	}
}

// TestP8_3_Model: words of all fields and about their ends, thrown ones, and the least, which have the longest texts.
func TestP8_3_Model(t *testing.T) {
	d := dice(87)
	for _, k := range tables() {
		for i, w := range k.edges() {
			if k.f == api.F32 || i < 100 || i%20 == 0 {
				checkExact(t, k, w)
				checkExact(t, k, w|k.sign)
			}
		}
		for range 200 {
			checkExact(t, k, k.thrown(&d))
			checkExact(t, k, k.thrown(&d)|k.sign)
		}
	}
	g := table64()
	least := exact(g, 1|g.sign).text
	if len(least) != len("-0.")+1074 || !strings.HasSuffix(least, "5") {
		t.Fatalf("Exact of the least number below 0: %d bytes, %q", len(least), short(least))
	}
}
