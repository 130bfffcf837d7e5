package deci_test

import (
	"regexp"
	"strings"
	"testing"

	"cutplane/api"
)

// wrongTexts is texts that are no decimal ones, each by one thing.
func wrongTexts() []string {
	return []string{
		"", "-", "+", ".", "e", "-.", "-e5", "+1", "+inf", "+nan", "--1", "-+1", "1-", "1+",
		"1.", ".5", "-.5", "-1.", "1.e5", ".e5", "1..5", "1.5.", "1.5.5", "1.-5", "1.+5", "1.inf",
		"1e", "1e+", "1e-", "1.5e", "1e0000001", "1e-0000001", "1e+0000001", "1e1000000", "1ee5", "1e5e5", "1e5.", "1e5.0", "1e.5", "1e--5", "1e+-5", "1e-+5", "1einf", "e5",
		"-nan", "nan0", "nane5", "nan(0)", "nana", "na", "n", "snan", "qnan", "nan nan", "nan.", "1nan", "0nan",
		"in", "i", "inf0", "infe5", "inf.", "infinity", "infi", "--inf", "1inf", "infnan", "-infinity", "1-inf",
		"NaN", "NAN", "Nan", "Inf", "INF", "-Inf", "1E5", "1.5E5", "1E+5", "e", "E5",
		" 1", "1 ", " ", "\t1", "1\n", "1 e5", "1e 5", "- 1", "1. 5", "1 .5", " inf", "nan ", "\x001", "1\x00", "\xff", "1\xff",
		"0x1", "0x1p0", "1p5", "0b1", "0o7", "1_000", "1,5", "1'000", "1f", "1d", "1l", "1i", "1/2", "1%", "#1", "1:", "a", "-a",
		"١", "１", "1٫5", "−1", "∞", "1e５", "½",
	}
}

// TestP8_1_WrongTexts: each wrong text is refused in each mode of both formats.
func TestP8_1_WrongTexts(t *testing.T) {
	for _, k := range tables() {
		for _, m := range modes() {
			for _, s := range wrongTexts() {
				refuses(t, k.f, m, s, api.ErrText)
			}
		}
	}
}

// obeys holds Parse against the rule of texts: refused is just what it rules out.
func obeys(t *testing.T, rule *regexp.Regexp, s string) {
	t.Helper()
	if !rule.MatchString(s) {
		refuses(t, api.F64, api.ToEven, s, api.ErrText)
		return
	}
	if g := parse(api.F64, api.ToEven, s); g.err != api.OK {
		t.Fatalf("Parse of %q: error %d", s, g.err)
	}
}

// TestP8_1_EachByte: any byte put into a good text, or in the place of one of its bytes, and any one left out.
func TestP8_1_EachByte(t *testing.T) {
	rule := regexp.MustCompile(anyText)
	for _, s := range []string{"", "7", "-12.50e-03", "nan", "-inf", "1e123456", "0.5e+999999"} {
		for at := range len(s) + 1 {
			for b := range 256 {
				obeys(t, rule, s[:at]+string([]byte{byte(b)})+s[at:])
				if at < len(s) {
					obeys(t, rule, s[:at]+string([]byte{byte(b)})+s[at+1:])
				}
			}
			if at < len(s) {
				obeys(t, rule, s[:at]+s[at+1:])
			}
		}
	}
}

// TestP8_1_ThrownTexts: texts of the bytes of which decimal texts are made, in any order.
func TestP8_1_ThrownTexts(t *testing.T) {
	rule := regexp.MustCompile(anyText)
	d := dice(83)
	for range 60000 {
		obeys(t, rule, d.text("0123456789..-+ee", d.below(12)))
		obeys(t, rule, d.text("infa-0", d.below(6)))
	}
}

// TestP8_1_Long: a text with a byte too many is refused for that, whatever it is; with one less it is read.
func TestP8_1_Long(t *testing.T) {
	most := strings.Repeat("0", api.MaxText-1) + "1"
	for _, k := range tables() {
		for _, m := range modes() {
			checkParse(t, k, m, most, k.power(0), 0)
			checkParse(t, k, m, "-"+most[1:], k.power(0)|k.sign, 0)
			for _, s := range []string{"0" + most, "-" + most, most + "e", strings.Repeat("x", api.MaxText+1), strings.Repeat("nan", 500), strings.Repeat("1", 1<<20)} {
				refuses(t, k.f, m, s, api.ErrLong)
			}
			for _, s := range []string{strings.Repeat("x", api.MaxText), most[1:] + "e", most[1:] + ".", "nan" + most[3:]} {
				refuses(t, k.f, m, s, api.ErrText)
			}
		}
	}
}
