package conv_test

import (
	"math"
	"testing"

	"cutplane/api"
	"cutplane/conv"
)

// checkTo holds To against a word and flags.
func checkTo(t *testing.T, k, g table, m api.Mode, w, want uint64, flags api.Flags) {
	t.Helper()
	got(conv.To(k.f, g.f, m, w)).is(t, want, flags, "To", k, m, w)
}

// TestP6_1_Kinds: NaNs, infinite words and noughts, from each format to each.
func TestP6_1_Kinds(t *testing.T) {
	for _, k := range tables() {
		for _, g := range tables() {
			for _, m := range modes() {
				for _, w := range k.nans() {
					checkTo(t, k, g, m, w, g.nan, 0)
				}
				checkTo(t, k, g, m, k.inf, g.inf, 0)
				checkTo(t, k, g, m, k.inf|k.sign, g.inf|g.sign, 0)
				checkTo(t, k, g, m, 0, 0, 0)
				checkTo(t, k, g, m, k.sign, g.sign, 0)
			}
		}
	}
}

// TestP6_1_SameFormat: a finite word of a format is itself in it.
func TestP6_1_SameFormat(t *testing.T) {
	for _, k := range tables() {
		for _, w := range k.everyField() {
			for _, m := range modes() {
				checkTo(t, k, k, m, w, w, 0)
			}
		}
	}
}

// checkWider: a finite word of F32 is the same number in F64, and comes back.
func checkWider(t *testing.T, w uint64) {
	t.Helper()
	k, g := table32(), table64()
	wide := g.bitsOf(k.float(w))
	for _, m := range modes() {
		checkTo(t, k, g, m, w, wide, 0)
		checkTo(t, g, k, m, wide, w, 0)
	}
}

func TestP6_1_Wider(t *testing.T) {
	k, d := table32(), dice(61)
	for _, w := range append(k.everyField(), k.signed(k.edges()...)...) {
		checkWider(t, w)
	}
	for range 3000 {
		checkWider(t, k.anyWord(&d))
	}
}

// narrowRows is words of F64 and what they are in F32, from the middle to the great ones, then down to the least.
func narrowRows() []row {
	const half = 0x1p-24 // of the unit of numbers from 1 on
	const low, great = 0x00800000, 0x7F7FFFFF
	k, bits := table32(), math.Float64bits
	inexact, under := same5(api.Inexact), same5(bothUnder)
	return []row{
		{"half way, the even one below", bits(1 + half), half5(0x3F800000), inexact},
		{"half way, the even one above", bits(1 + 3*half), [5]uint64{0x3F800002, 0x3F800002, 0x3F800001, 0x3F800002, 0x3F800001}, inexact},
		{"less than half way", bits(1+half) - 1, up5(0x3F800000), inexact},
		{"more than half way", bits(1+half) + 1, near5(0x3F800000), inexact},
		{"a word and the least more", bits(1) + 1, up5(0x3F800000), inexact},
		{"a word and the least less", bits(1) - 1, near5(0x3F7FFFFF), inexact},
		{"half a unit above the greatest", bits(0x1p128 - 0x1p103), k.over5(), in5(bothOver, api.Inexact)},
		{"just less than that", bits(0x1p128-0x1p103) - 1, up5(great), [5]api.Flags{api.Inexact, api.Inexact, api.Inexact, bothOver, api.Inexact}},
		{"just above the greatest", bits(0x1p128-0x1p104) + 1, up5(great), [5]api.Flags{api.Inexact, api.Inexact, api.Inexact, bothOver, api.Inexact}},
		{"the greatest", bits(0x1p128 - 0x1p104), all5(great), same5(0)},
		{"2^128", bits(0x1p128), k.over5(), same5(bothOver)},
		{"the greatest of F64", bits(math.MaxFloat64), k.over5(), same5(bothOver)},
		{"the least normal one", bits(0x1p-126), all5(low), same5(0)},
		{"less than it by less than half of a finer unit", bits(0x1p-126 - 0x1p-152), near5(low - 1), in5(api.Inexact, bothUnder)},
		{"by half of a finer unit", bits(0x1p-126 - 0x1p-151), near5(low - 1), in5(api.Inexact, bothUnder)},
		{"by more than half of it", bits(0x1p-126 - 3*0x1p-152), near5(low - 1), [5]api.Flags{bothUnder, bothUnder, bothUnder, api.Inexact, bothUnder}},
		{"by a finer unit", bits(0x1p-126 - 0x1p-150), near5(low - 1), under},
		{"the greatest subnormal one", bits(0x1p-126 - 0x1p-149), all5(low - 1), same5(0)},
		{"half way among subnormal words", bits(0x1p-130 + 0x1p-150), half5(low / 16), under},
		{"half way to the even one", bits(3 * 0x1p-150), near5(1), under},
		{"the least", bits(0x1p-149), all5(1), same5(0)},
		{"more than half of the least", bits(0x1p-150) + 1, near5(0), under},
		{"half of it", bits(0x1p-150), half5(0), under},
		{"less than half of it", bits(0x1p-150) - 1, up5(0), under},
		{"the least normal one of F64", bits(0x1p-1022), up5(0), under},
		{"the least of F64", 1, up5(0), under},
	}
}

func TestP6_1_Narrower(t *testing.T) {
	k, g := table64(), table32()
	for _, r := range narrowRows() {
		t.Run(r.name, func(t *testing.T) {
			for i, m := range modes() {
				checkTo(t, k, g, m, r.x, r.words[i], r.flags[i])
				checkTo(t, k, g, mirror(m), r.x|k.sign, r.words[i]|g.sign, r.flags[i])
			}
		})
	}
}

// checkNarrower holds a finite word of F64, no nought, against the model and against Go.
func checkNarrower(t *testing.T, w uint64) {
	t.Helper()
	k, g := table64(), table32()
	for _, m := range modes() {
		want, flags := g.rounded(k.value(w), m)
		checkTo(t, k, g, m, w, want, flags)
	}
	if to, _, _ := conv.To(k.f, g.f, api.ToEven, w); to != g.bitsOf(k.float(w)) {
		t.Fatalf("To of %x: %x, Go has %x", w, to, g.bitsOf(k.float(w)))
	}
}

// TestP6_1_Thrown: words about both ends of F32, between them, beyond them, and half way between two words of F32.
func TestP6_1_Thrown(t *testing.T) {
	k, d := table64(), dice(62)
	for _, w := range k.signed(k.edges()...) {
		checkNarrower(t, w)
	}
	const half = 1 << 28 // half the last place of F32, as it stands in a word of F64
	for range 3000 {
		checkNarrower(t, k.anyWord(&d)|1)
		checkNarrower(t, k.word(&d, k.bias(), 160)|1)
		checkNarrower(t, k.word(&d, k.bias()-137, 14)|1)
		checkNarrower(t, k.word(&d, k.bias()+127, 2)|1)
		checkNarrower(t, k.word(&d, k.bias(), 126)&^(2*half-1)|half)
	}
}
