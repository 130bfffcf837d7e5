package deci_test

import (
	"regexp"
	"slices"
	"strings"
	"testing"

	"cutplane/api"
	"cutplane/deci"
)

// call is a call that tells a text of a word; where it is handed no mode and no number of digits, these are left out.
type call struct {
	name  string
	moded bool
	of    func(f api.Format, m api.Mode, w uint64, n int) written
}

func calls() []call {
	return []call{
		{"Shortest", false, func(f api.Format, _ api.Mode, w uint64, _ int) written { return got(deci.Shortest(f, w)) }},
		{"Exact", false, func(f api.Format, _ api.Mode, w uint64, _ int) written { return got(deci.Exact(f, w)) }},
		{"Show", true, func(f api.Format, m api.Mode, w uint64, n int) written { return got(deci.Show(f, m, w, n)) }},
	}
}

// noFormats is all formats that are none of both.
func noFormats() []api.Format {
	var list []api.Format
	for i := range 256 {
		if f := api.Format(i); f != api.F32 && f != api.F64 {
			list = append(list, f)
		}
	}
	return list
}

// noModes is all modes that are none of the five.
func noModes() []api.Mode {
	var list []api.Mode
	for i := range 256 {
		if m := api.Mode(i); !slices.Contains(modes(), m) {
			list = append(list, m)
		}
	}
	return list
}

// tooGreat is words that F32 has not: each uint64 is one of F64.
func tooGreat() []uint64 {
	return []uint64{1 << 32, 1<<32 | 1, 1<<32 | 0x3F800000, 1<<32 | 0x7FC00000, 1<<33 - 1, 1 << 63, 0x3FF0000000000000, 0x7FF8000000000000, 1<<64 - 1}
}

func someWords() []uint64 {
	return append(tooGreat(), 0, 1, 0x80000000, 0x3F800000, 0x7F800000, 0x7FC00000, 0xFFFFFFFF)
}

func someTexts() []string {
	return []string{"", "1", "nan", "-inf", "0", "x", "-0.5e3", strings.Repeat("1", 1201)}
}

// TestP1_FormatFirst: a format that is none comes first, whatever else is handed in.
func TestP1_FormatFirst(t *testing.T) {
	for _, f := range noFormats() {
		for _, m := range append(modes(), 0, 6, 255) {
			for _, c := range calls() {
				for _, w := range someWords() {
					for _, n := range []int{0, 3, 801} {
						c.of(f, m, w, n).refused(t, api.ErrFormat, c.name, f, m, w, n)
					}
				}
			}
			for _, s := range someTexts() {
				refuses(t, f, m, s, api.ErrFormat)
			}
		}
	}
}

// TestP1_ModeNext: then comes a mode that is none.
func TestP1_ModeNext(t *testing.T) {
	for _, k := range tables() {
		for _, m := range noModes() {
			for _, w := range someWords() {
				for _, n := range []int{0, 3, 801} {
					show(k, m, w, n).refused(t, api.ErrMode, "Show", k.f, m, w, n)
				}
			}
			for _, s := range someTexts() {
				refuses(t, k.f, m, s, api.ErrMode)
			}
		}
	}
}

// TestP1_Words: then a word that F32 has not, whatever the number of digits is; F64 has each.
func TestP1_Words(t *testing.T) {
	for _, c := range calls() {
		for _, m := range modes() {
			for _, w := range tooGreat() {
				for _, n := range []int{-1, 0, 3, 800, 801} {
					c.of(api.F32, m, w, n).refused(t, api.ErrWord, c.name, m, w, n)
				}
				if g := c.of(api.F64, m, w, 3); g.err != api.OK || g.text == "" {
					t.Fatalf("%s of %x: %q error %d", c.name, w, g.text, g.err)
				}
			}
		}
	}
}

// TestP1_FullWords: the greatest word of a format is one, a NaN.
func TestP1_FullWords(t *testing.T) {
	for _, k := range tables() {
		for _, c := range calls() {
			c.of(k.f, api.ToEven, k.full, 3).is(t, "nan", c.name, k, k.full)
		}
	}
}

// TestP1_Same: a second call answers the same, whatever was asked between.
func TestP1_Same(t *testing.T) {
	d := dice(89)
	for _, k := range tables() {
		for range 200 {
			w, m, n := d.next()&k.full, modes()[d.below(5)], 1+d.below(30)
			var first []written
			for _, c := range calls() {
				first = append(first, c.of(k.f, m, w, n))
			}
			s := d.number(0, 40)
			p := parse(k.f, m, s)
			for i, c := range calls() {
				if again := c.of(k.f, m, w, n); again != first[i] {
					t.Fatalf("%s of %x: %v, then %v", c.name, w, first[i], again)
				}
			}
			if again := parse(k.f, m, s); again != p {
				t.Fatalf("Parse of %q: %v, then %v", s, p, again)
			}
		}
	}
}

// TestFollows: each text that is told, of any word, is a decimal text, and is no longer than a text may be.
func TestFollows(t *testing.T) {
	rule := regexp.MustCompile(anyText)
	d := dice(90)
	for _, k := range tables() {
		for range 300 {
			w := d.next() & k.full
			if d.below(3) == 0 {
				w = k.thrown(&d)
			}
			for _, c := range calls() {
				g := c.of(k.f, modes()[d.below(5)], w, 1+d.below(800))
				if g.err != api.OK || !rule.MatchString(g.text) || len(g.text) > api.MaxText {
					t.Fatalf("%s, format %d, of %x: %q error %d", c.name, k.f, w, short(g.text), g.err)
				}
			}
		}
	}
}

// TestExamples: the chapter's table.
func TestExamples(t *testing.T) {
	k, g := table32(), table64()
	shortest(g, 0x3FB999999999999A).is(t, "0.1", "Shortest", g)
	shortest(g, 0x4340000000000000).is(t, "9007199254740992", "Shortest", g)
	shortest(g, 1).is(t, "5e-324", "Shortest", g)
	shortest(k, 1).is(t, "1e-45", "Shortest", k)
	shortest(g, 0x444B1AE4D6E2EF50).is(t, "1e21", "Shortest", g)
	shortest(g, 0x4415AF1D78B58C40).is(t, "100000000000000000000", "Shortest", g)
	exact(k, 0x3DCCCCCD).is(t, "0.100000001490116119384765625", "Exact", k)
	exact(k, 0x80000000).is(t, "-0", "Exact", k)
	show(g, api.ToEven, 0x3FB999999999999A, 3).is(t, "0.1", "Show", g)
	show(g, api.ToUp, 0x3FB999999999999A, 3).is(t, "0.101", "Show", g)
	show(g, api.ToEven, 0x4028000000000000, 1).is(t, "10", "Show", g)
	checkParse(t, k, api.ToEven, "16777217", 0x4B800000, api.Inexact)
	checkParse(t, k, api.ToEven, "1e39", 0x7F800000, bothOver)
	checkParse(t, k, api.ToEven, "-0.0", 0x80000000, 0)
	checkParse(t, k, api.ToEven, "1e-60", 0, bothUnder)
	for _, s := range []string{"", "1.", ".5", "1e", "1e0000001", "-nan", "+1"} {
		refuses(t, api.F32, api.ToEven, s, api.ErrText)
	}
}
