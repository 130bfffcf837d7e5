package soft_test

import (
	"testing"

	"cutplane/api"
)

func noFormats() []api.Format { return []api.Format{0, 3, 4, 32, 64, 128, 255} }

func noModes() []api.Mode { return []api.Mode{0, 6, 7, 64, 128, 255} }

// tooGreat is words that F32 has not: each uint64 is one of F64.
func tooGreat() []uint64 {
	return []uint64{1 << 32, 1<<32 | 0x3F800000, 1<<33 - 1, 1 << 63, 0x3FF0000000000000, 1<<64 - 1}
}

// TestP1_FormatFirst: a format that is none comes first, whatever the mode and the words are.
func TestP1_FormatFirst(t *testing.T) {
	words := append(tooGreat(), 0, 0x3F800000, 0x7FC00000, 0x7F800000)
	for _, c := range calls() {
		for _, f := range noFormats() {
			for _, m := range append(modes(), noModes()...) {
				for _, a := range words {
					for _, b := range words {
						c.refuse(t, f, m, api.ErrFormat, a, b, a)
					}
				}
			}
		}
	}
}

// TestP1_ModeNext: then comes a mode that is none, whatever the words are.
func TestP1_ModeNext(t *testing.T) {
	words := append(tooGreat(), 0, 0x3F800000, 0x7FC00000, 0x7F800000)
	for _, c := range calls() {
		for _, k := range tables() {
			for _, m := range noModes() {
				for _, a := range words {
					for _, b := range words {
						c.refuse(t, k.f, m, api.ErrMode, a, b, a)
					}
				}
			}
		}
	}
}

// TestP1_Words: a word that the format has not, in each place; NaNs and what is Invalid elsewhere don't come ahead of it.
func TestP1_Words(t *testing.T) {
	others := []uint64{0, 0x80000000, 0x3F800000, 0xBF800000, 0x7F800000, 0xFF800000, 0x7FC00000, 0xFFFFFFFF, 1 << 40}
	for _, c := range calls() {
		for _, m := range modes() {
			for _, bad := range tooGreat() {
				for place := range c.words {
					for _, a := range others {
						for _, b := range others {
							x := []uint64{a, b, a}
							x[place] = bad
							c.refuse(t, api.F32, m, api.ErrWord, x...)
						}
					}
				}
			}
		}
	}
}

// TestP1_FullWords: the greatest word of a format is one.
func TestP1_FullWords(t *testing.T) {
	for _, c := range calls() {
		for _, k := range tables() {
			for _, m := range modes() {
				c.tell(t, k, m, k.nan, 0, k.full, k.full, k.full)
			}
		}
	}
}

// TestP1_Same: a second call answers the same.
func TestP1_Same(t *testing.T) {
	d := dice(11)
	for _, c := range calls() {
		for _, k := range tables() {
			for range 200 {
				x := []uint64{k.anyWord(&d), k.anyWord(&d), k.anyWord(&d)}
				for _, m := range modes() {
					w, flags, _ := c.of(k.f, m, x...)
					c.tell(t, k, m, w, flags, x...)
				}
			}
		}
	}
}

// TestExamples: the chapter's table.
func TestExamples(t *testing.T) {
	k := tables()[0]
	callAdd().tell(t, k, api.ToEven, 0x4B800000, api.Inexact, 0x4B800000, 0x3F800000)
	callAdd().tell(t, k, api.ToEven, 0, 0, 0x3F800000, 0xBF800000)
	callAdd().tell(t, k, api.ToDown, 0x80000000, 0, 0x3F800000, 0xBF800000)
	for _, m := range modes() {
		callAdd().tell(t, k, m, 0x7FC00000, api.Invalid, 0x7F800000, 0xFF800000)
		callMul().tell(t, k, m, 0x7FC00000, api.Invalid, 0x7F800000, 0x80000000)
		callDiv().tell(t, k, m, 0xFF800000, api.DivZero, 0xBF800000, 0)
		callSqrt().tell(t, k, m, 0x80000000, 0, 0x80000000)
		callSqrt().tell(t, k, m, 0x7FC00000, api.Invalid, 0xBF800000)
	}
	callMulAdd().tell(t, k, api.ToEven, 0x28800000, 0, 0x3F800001, 0x3F800001, 0xBF800002)
}
