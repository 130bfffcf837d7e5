package conv_test

import (
	"math"
	"math/big"
	"testing"

	"cutplane/api"
	"cutplane/conv"
)

func checkFromInt(t *testing.T, k table, m api.Mode, n int64, want uint64, flags api.Flags) {
	t.Helper()
	got(conv.FromInt(k.f, m, n)).is(t, want, flags, "FromInt", k, m, uint64(n))
}

// intRow is what the modes ToEven, ToAway, ToZero, ToUp, ToDown make of a whole number above nought, which no word has.
type intRow struct {
	n     int64
	words [5]uint64
}

func intRows(k table) []intRow {
	p := k.precision
	wide := k.power(p) // From here on the unit is 2.
	return []intRow{
		{1<<p + 1, half5(wide)},
		{1<<p + 3, near5(wide + 1)},
		{1<<(p+1) - 1, near5(k.power(p+1) - 1)},
		{1<<(p+1) + 1, up5(k.power(p + 1))},
		{1<<(p+1) + 2, half5(k.power(p + 1))},
		{1<<(p+1) + 3, near5(k.power(p + 1))},
		{1<<62 + 1, up5(k.power(62))},
		{1<<62 + 1<<(62-p), half5(k.power(62))},
		{1<<62 + 3<<(62-p), near5(k.power(62) + 1)},
		{1<<62 + 1<<(62-p) + 1, near5(k.power(62))},
		{1<<62 + 1<<(62-p) - 1, up5(k.power(62))},
		{math.MaxInt64, near5(k.power(63) - 1)},
		{math.MaxInt64 - 1, near5(k.power(63) - 1)},
		{math.MaxInt64 - 1<<(62-p), up5(k.power(63) - 1)},
		{math.MaxInt64 - 1<<(62-p) + 1, near5(k.power(63) - 1)},
	}
}

func TestP6_3_FromIntRows(t *testing.T) {
	for _, k := range tables() {
		for _, r := range intRows(k) {
			for i, m := range modes() {
				checkFromInt(t, k, m, r.n, r.words[i], api.Inexact)
				checkFromInt(t, k, mirror(m), -r.n, r.words[i]|k.sign, api.Inexact)
			}
		}
	}
}

// TestP6_3_FromIntWords: whole numbers that a word has are that word in each mode, and that word is the whole number; 0 is +0.
func TestP6_3_FromIntWords(t *testing.T) {
	for _, k := range tables() {
		p := k.precision
		for _, n := range []int64{0, 1, 2, 3, 10, 255, 1 << 20, 1<<p - 1, 1 << p, 1<<p + 2, math.MaxInt64 - 1<<(63-p) + 1, math.MinInt64, math.MinInt64 + 1<<(63-p)} {
			for _, v := range []int64{n, -n} {
				w := k.bitsOf(float64(v))
				for _, m := range modes() {
					checkFromInt(t, k, m, v, w, 0)
					checkToInt(t, k, m, w, v, 0)
				}
			}
		}
	}
}

// TestP6_3_FromIntEnds: the least and the greatest int64, written out.
func TestP6_3_FromIntEnds(t *testing.T) {
	k, g := table32(), table64()
	for i, m := range modes() {
		checkFromInt(t, k, m, math.MinInt64, 0xDF000000, 0)
		checkFromInt(t, g, m, math.MinInt64, 0xC3E0000000000000, 0)
		checkFromInt(t, k, m, math.MaxInt64, near5(0x5EFFFFFF)[i], api.Inexact)
		checkFromInt(t, g, m, math.MaxInt64, near5(0x43DFFFFFFFFFFFFF)[i], api.Inexact)
		checkFromInt(t, k, mirror(m), math.MinInt64+1, near5(0xDEFFFFFF)[i], api.Inexact)
		checkFromInt(t, g, mirror(m), math.MinInt64+1, near5(0xC3DFFFFFFFFFFFFF)[i], api.Inexact)
		checkFromInt(t, k, m, 0, 0, 0)
		checkFromInt(t, g, m, 0, 0, 0)
	}
}

// TestP6_3_FromIntThrown: numbers of all lengths, against the model, and against Go in the mode ToEven.
func TestP6_3_FromIntThrown(t *testing.T) {
	d := dice(64)
	for range 4000 {
		n := int64(d.next()) >> d.below(64)
		if n == 0 {
			continue
		}
		for _, k := range tables() {
			for _, m := range modes() {
				want, flags := k.rounded(exactly(blank().SetInt(big.NewInt(n))), m)
				checkFromInt(t, k, m, n, want, flags)
			}
		}
		if w, _, _ := conv.FromInt(api.F32, api.ToEven, n); w != uint64(math.Float32bits(float32(n))) {
			t.Fatalf("FromInt of %d in F32: %x, not Go's", n, w)
		}
		if w, _, _ := conv.FromInt(api.F64, api.ToEven, n); w != math.Float64bits(float64(n)) {
			t.Fatalf("FromInt of %d in F64: %x, not Go's", n, w)
		}
	}
}
