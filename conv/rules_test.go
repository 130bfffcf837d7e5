package conv_test

import (
	"math"
	"slices"
	"testing"

	"cutplane/api"
	"cutplane/conv"
)

// call is a call with one format, one mode and one word left open; where it is handed no mode, or no word, what is told here is left out.
type call struct {
	name          string
	modes, worded bool // whether it is handed a mode, a word
	of            func(f api.Format, m api.Mode, w uint64) told
}

// calls is each call; what else it is handed is good.
func calls() []call {
	return []call{
		{"To F32", true, true, func(f api.Format, m api.Mode, w uint64) told { return got(conv.To(f, api.F32, m, w)) }},
		{"To F64", true, true, func(f api.Format, m api.Mode, w uint64) told { return got(conv.To(f, api.F64, m, w)) }},
		{"Integral", true, true, func(f api.Format, m api.Mode, w uint64) told { return got(conv.Integral(f, m, w)) }},
		{"FromInt of 7", true, false, func(f api.Format, m api.Mode, w uint64) told { return got(conv.FromInt(f, m, 7)) }},
		{"FromInt of 0", true, false, func(f api.Format, m api.Mode, w uint64) told { return got(conv.FromInt(f, m, 0)) }},
		{"FromInt of the least", true, false, func(f api.Format, m api.Mode, w uint64) told { return got(conv.FromInt(f, m, math.MinInt64)) }},
		{"ToInt", true, true, func(f api.Format, m api.Mode, w uint64) told { return gotInt(conv.ToInt(f, m, w)) }},
		{"Scale by 1", true, true, func(f api.Format, m api.Mode, w uint64) told { return got(conv.Scale(f, m, w, 1)) }},
		{"Scale by the least", true, true, func(f api.Format, m api.Mode, w uint64) told { return got(conv.Scale(f, m, w, math.MinInt)) }},
		{"Scale by the greatest", true, true, func(f api.Format, m api.Mode, w uint64) told { return got(conv.Scale(f, m, w, math.MaxInt)) }},
		{"Parts", false, true, gotParts},
		{"Rem by 1", false, true, func(f api.Format, m api.Mode, w uint64) told { return got(conv.Rem(f, w, 0x3F800000)) }},
		{"Rem by itself", false, true, func(f api.Format, m api.Mode, w uint64) told { return got(conv.Rem(f, w, w)) }},
		{"Rem by 0", false, true, func(f api.Format, m api.Mode, w uint64) told { return got(conv.Rem(f, w, 0)) }},
		{"Rem by a NaN", false, true, func(f api.Format, m api.Mode, w uint64) told { return got(conv.Rem(f, w, 0x7FC00001)) }},
		{"Rem of 1", false, true, func(f api.Format, m api.Mode, w uint64) told { return got(conv.Rem(f, 0x3F800000, w)) }},
		{"Rem of a NaN", false, true, func(f api.Format, m api.Mode, w uint64) told { return got(conv.Rem(f, 0x7FC00001, w)) }},
		{"Rem of infinite", false, true, func(f api.Format, m api.Mode, w uint64) told { return got(conv.Rem(f, 0x7F800000, w)) }},
	}
}

// gotParts has the exponent as a second word, so that it is held against 0 too, where there must be none.
func gotParts(f api.Format, _ api.Mode, w uint64) told {
	frac, exp, e := conv.Parts(f, w)
	if frac == 0 && exp != 0 {
		return told{word: uint64(exp), err: e}
	}
	return told{word: frac, err: e}
}

// noFormats is all formats that are none of both.
func noFormats() []api.Format {
	var list []api.Format
	for i := range 256 {
		if f := api.Format(i); f != api.F32 && f != api.F64 {
			list = append(list, f)
		}
	}
	return list
}

// noModes is all modes that are none of the five.
func noModes() []api.Mode {
	var list []api.Mode
	for i := range 256 {
		if m := api.Mode(i); !slices.Contains(modes(), m) {
			list = append(list, m)
		}
	}
	return list
}

// tooGreat is words that F32 has not: each uint64 is one of F64.
func tooGreat() []uint64 {
	return []uint64{1 << 32, 1<<32 | 1, 1<<32 | 0x3F800000, 1<<32 | 0x7FC00000, 1<<33 - 1, 1 << 63, 0x3FF0000000000000, 1<<64 - 1}
}

func someWords() []uint64 {
	return append(tooGreat(), 0, 1, 0x80000000, 0x3F800000, 0x7F800000, 0x7FC00000, 0xFFFFFFFF)
}

// TestP1_FormatFirst: a format that is none comes first, whatever the mode and the word are.
func TestP1_FormatFirst(t *testing.T) {
	for _, c := range calls() {
		for _, f := range noFormats() {
			for _, m := range append(modes(), 0, 6, 255) {
				for _, w := range someWords() {
					c.of(f, m, w).refused(t, api.ErrFormat, c.name, uint64(f), uint64(m), w)
				}
			}
		}
	}
}

// TestP1_ToFormats: either format of To may be none, and comes ahead of the mode and the word.
func TestP1_ToFormats(t *testing.T) {
	for _, bad := range noFormats() {
		for _, other := range []api.Format{api.F32, api.F64, 0, bad} {
			for _, m := range append(modes(), 0, 6, 255) {
				for _, w := range someWords() {
					got(conv.To(bad, other, m, w)).refused(t, api.ErrFormat, "To, from no format,", uint64(bad), uint64(other), uint64(m), w)
					got(conv.To(other, bad, m, w)).refused(t, api.ErrFormat, "To, to no format,", uint64(other), uint64(bad), uint64(m), w)
				}
			}
		}
	}
}

// TestP1_ModeNext: then comes a mode that is none, whatever the word is.
func TestP1_ModeNext(t *testing.T) {
	for _, c := range calls() {
		if !c.modes {
			continue
		}
		for _, k := range tables() {
			for _, m := range noModes() {
				for _, w := range someWords() {
					c.of(k.f, m, w).refused(t, api.ErrMode, c.name, uint64(m), w)
				}
			}
		}
	}
}

// TestP1_Words: then a word that the format has not; it is asked of the first of To's formats.
func TestP1_Words(t *testing.T) {
	for _, c := range calls() {
		if !c.worded {
			continue
		}
		for _, m := range modes() {
			for _, w := range tooGreat() {
				c.of(api.F32, m, w).refused(t, api.ErrWord, c.name, uint64(m), w)
			}
		}
	}
	for _, m := range modes() {
		for _, w := range tooGreat() {
			if _, _, e := conv.To(api.F64, api.F32, m, w); e != api.OK {
				t.Fatalf("To from F64 of %x: error %d", w, e)
			}
		}
	}
}

// TestP1_RemWords: either word of Rem may be wrong, whatever the other one is.
func TestP1_RemWords(t *testing.T) {
	for _, bad := range tooGreat() {
		for _, w := range someWords() {
			got(conv.Rem(api.F32, bad, w)).refused(t, api.ErrWord, "Rem, the first word wrong,", bad, w)
			got(conv.Rem(api.F32, w, bad)).refused(t, api.ErrWord, "Rem, the second word wrong,", w, bad)
		}
	}
}

// TestP1_FullWords: the greatest word of a format is one, a NaN.
func TestP1_FullWords(t *testing.T) {
	for _, k := range tables() {
		for _, m := range modes() {
			checkTo(t, k, k, m, k.full, k.nan, 0)
			checkIntegral(t, k, m, k.full, k.nan, 0)
			checkToInt(t, k, m, k.full, 0, api.Invalid)
			checkScale(t, k, m, k.full, 1, k.nan, 0)
		}
		checkRem(t, k, k.full, k.full, k.nan, 0)
		if _, _, e := conv.Parts(k.f, k.full); e != api.ErrNone {
			t.Errorf("Parts of %x: error %d", k.full, e)
		}
	}
}

// TestP1_Same: a second call answers the same, whatever was asked between.
func TestP1_Same(t *testing.T) {
	d := dice(69)
	for range 200 {
		w := d.next() % (1 << 32)
		for _, m := range modes() {
			var first []told
			for _, c := range calls() {
				first = append(first, c.of(api.F32, m, w))
			}
			for i, c := range calls() {
				if again := c.of(api.F32, m, w); again != first[i] {
					t.Fatalf("%s, mode %d, of %x: %v, then %v", c.name, m, w, first[i], again)
				}
			}
		}
	}
}

// TestExamples: the chapter's table.
func TestExamples(t *testing.T) {
	k, g := table32(), table64()
	checkTo(t, g, k, api.ToEven, 0x3FF0000010000000, 0x3F800000, api.Inexact)
	checkTo(t, g, k, api.ToUp, 0x3FF0000010000000, 0x3F800001, api.Inexact)
	checkIntegral(t, k, api.ToEven, 0x3F000000, 0, api.Inexact)
	checkIntegral(t, k, api.ToEven, 0xBF000000, 0x80000000, api.Inexact)
	checkIntegral(t, k, api.ToUp, 0x3F000000, 0x3F800000, api.Inexact)
	checkToInt(t, g, api.ToZero, 0xC008CCCCCCCCCCCD, -3, api.Inexact)
	checkToInt(t, g, api.ToZero, 0x43E0000000000000, 0, api.Invalid)
	checkScale(t, k, api.ToEven, 0x3F800000, 200, 0x7F800000, bothOver)
	checkScale(t, k, api.ToEven, 0x3F800000, -200, 0, bothUnder)
	checkScale(t, k, api.ToEven, 0x3F800000, -149, 1, 0)
	checkParts(t, g, 0x4014000000000000, 0x3FE4000000000000, 3)
	checkRem(t, g, g.bitsOf(5), g.bitsOf(3), g.bitsOf(-1), 0)
	checkRem(t, g, g.bitsOf(3), g.bitsOf(2), g.bitsOf(-1), 0)
	checkRem(t, g, g.bitsOf(1), 0, 0x7FF8000000000000, api.Invalid)
}
