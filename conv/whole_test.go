package conv_test

import (
	"math"
	"testing"

	"cutplane/api"
	"cutplane/conv"
)

// wholeRow is a word above nought and the whole numbers that the modes ToEven, ToAway, ToZero, ToUp, ToDown take for it; where they are others, all of them are.
type wholeRow struct {
	x     uint64
	whole [5]int64
}

func whole5(low int64) [5]int64 { return [5]int64{low, low, low, low, low} }

func wholeUp(low int64) [5]int64 { return [5]int64{low, low, low, low + 1, low} }

func wholeNear(low int64) [5]int64 { return [5]int64{low + 1, low + 1, low, low + 1, low} }

func wholeHalf(even int64) [5]int64 { return [5]int64{even, even + 1, even, even + 1, even} }

// wholeRows is words that are no whole numbers.
func wholeRows(k table) []wholeRow {
	p, half := k.precision, k.power(-1)
	wide := int64(1) << (p - 3)
	return []wholeRow{
		{1, wholeUp(0)}, {2, wholeUp(0)}, {k.step() - 1, wholeUp(0)}, {k.step(), wholeUp(0)},
		{k.power(-2), wholeUp(0)}, {half - 1, wholeUp(0)}, {half, wholeHalf(0)}, {half + 1, wholeNear(0)},
		{k.bitsOf(0.75), wholeNear(0)}, {k.power(0) - 1, wholeNear(0)}, {k.power(0) + 1, wholeUp(1)},
		{k.bitsOf(1.5) - 1, wholeUp(1)}, {k.bitsOf(1.5), wholeNear(1)}, {k.bitsOf(1.5) + 1, wholeNear(1)}, {k.power(1) - 1, wholeNear(1)},
		{k.bitsOf(2.5) - 1, wholeUp(2)}, {k.bitsOf(2.5), wholeHalf(2)}, {k.bitsOf(2.5) + 1, wholeNear(2)},
		{k.bitsOf(3.5), wholeNear(3)}, {k.bitsOf(4.5), wholeHalf(4)}, {k.bitsOf(100.25), wholeUp(100)},
		{k.power(p-3) + 1, wholeUp(wide)}, {k.power(p-3) + 2, wholeHalf(wide)}, {k.power(p-3) + 3, wholeNear(wide)},
		{k.power(p-2) + 1, wholeHalf(2 * wide)}, {k.power(p-2) + 3, wholeNear(2*wide + 1)},
		{k.power(p-1) - 3, wholeHalf(4*wide - 2)}, {k.power(p-1) - 1, wholeNear(4*wide - 1)},
	}
}

// wholeWords is words above nought that are whole numbers, and below 2^63.
func wholeWords(k table) []uint64 {
	p := k.precision
	return []uint64{
		k.power(0), k.power(1), k.bitsOf(3), k.bitsOf(5), k.bitsOf(1000001), k.power(31), k.power(32),
		k.power(p - 1), k.power(p-1) + 1, k.power(p) - 1, k.power(p), k.power(p) + 1, k.power(62), k.power(63) - 1,
	}
}

// farWords is words above nought from 2^63 on.
func farWords(k table) []uint64 {
	return []uint64{k.power(63), k.power(63) + 1, k.power(64) - 1, k.power(64), k.power(65), k.power(k.limit - 1), k.inf - 1}
}

func checkIntegral(t *testing.T, k table, m api.Mode, w, want uint64, flags api.Flags) {
	t.Helper()
	got(conv.Integral(k.f, m, w)).is(t, want, flags, "Integral", k, m, w)
}

func TestP6_2_Kinds(t *testing.T) {
	for _, k := range tables() {
		for _, m := range modes() {
			for _, w := range k.nans() {
				checkIntegral(t, k, m, w, k.nan, 0)
			}
			for _, w := range k.signed(0, k.inf) {
				checkIntegral(t, k, m, w, w, 0)
			}
		}
	}
}

func TestP6_2_Rows(t *testing.T) {
	for _, k := range tables() {
		for _, r := range wholeRows(k) {
			for i, m := range modes() {
				want := k.bitsOf(float64(r.whole[i]))
				checkIntegral(t, k, m, r.x, want, api.Inexact)
				checkIntegral(t, k, mirror(m), r.x|k.sign, want|k.sign, api.Inexact)
			}
		}
	}
}

// TestP6_2_WholeStays: a whole number is taken for itself, however great it is.
func TestP6_2_WholeStays(t *testing.T) {
	for _, k := range tables() {
		for _, w := range k.signed(append(wholeWords(k), farWords(k)...)...) {
			for _, m := range modes() {
				checkIntegral(t, k, m, w, w, 0)
			}
		}
	}
}

// goWhole is what the library takes for a float in a mode.
func goWhole(m api.Mode, x float64) float64 {
	switch m {
	case api.ToAway:
		return math.Round(x)
	case api.ToZero:
		return math.Trunc(x)
	case api.ToUp:
		return math.Ceil(x)
	case api.ToDown:
		return math.Floor(x)
	}
	return math.RoundToEven(x)
}

// checkLikeGo holds Integral and ToInt of a finite word against the library; what was taken stays in each mode.
func checkLikeGo(t *testing.T, k table, w uint64) {
	t.Helper()
	for _, m := range modes() {
		x := goWhole(m, k.float(w))
		want, flags := k.bitsOf(x), api.Flags(0)
		if x != k.float(w) {
			flags = api.Inexact
		}
		checkIntegral(t, k, m, w, want, flags)
		for _, again := range modes() {
			checkIntegral(t, k, again, want, want, 0)
		}
		n := int64(0)
		if x >= -0x1p63 && x < 0x1p63 {
			n = int64(x)
		} else {
			flags = api.Invalid
		}
		checkToInt(t, k, m, w, n, flags)
	}
}

// TestP6_2_3_LikeGo: words of all fields, and thrown ones where whole numbers lie between others, and about 2^63.
func TestP6_2_3_LikeGo(t *testing.T) {
	d := dice(63)
	for _, k := range tables() {
		for _, w := range append(k.signed(k.edges()...), k.everyField()...) {
			checkLikeGo(t, k, w)
		}
		for range 2000 {
			checkLikeGo(t, k, k.word(&d, k.bias()+k.precision/2, k.precision))
			checkLikeGo(t, k, k.word(&d, k.bias(), 3))
			checkLikeGo(t, k, k.word(&d, k.bias()+62, 2))
		}
	}
}

func checkToInt(t *testing.T, k table, m api.Mode, w uint64, n int64, flags api.Flags) {
	t.Helper()
	gotInt(conv.ToInt(k.f, m, w)).is(t, uint64(n), flags, "ToInt", k, m, w)
}

func TestP6_3_ToIntRows(t *testing.T) {
	for _, k := range tables() {
		for _, r := range wholeRows(k) {
			for i, m := range modes() {
				checkToInt(t, k, m, r.x, r.whole[i], api.Inexact)
				checkToInt(t, k, mirror(m), r.x|k.sign, -r.whole[i], api.Inexact)
			}
		}
		for _, w := range wholeWords(k) {
			for _, m := range modes() {
				checkToInt(t, k, m, w, int64(k.float(w)), 0)
				checkToInt(t, k, m, w|k.sign, -int64(k.float(w)), 0)
			}
		}
	}
}

// TestP6_3_ToIntInvalid: NaNs, infinite words, whole numbers that are too great or too little.
func TestP6_3_ToIntInvalid(t *testing.T) {
	for _, k := range tables() {
		list := append(k.nans(), k.signed(k.inf)...)
		list = append(list, farWords(k)...)
		for _, w := range farWords(k)[1:] {
			list = append(list, w|k.sign)
		}
		for _, w := range list {
			for _, m := range modes() {
				checkToInt(t, k, m, w, 0, api.Invalid)
			}
		}
	}
}

// TestP6_3_ToIntEnds: -2^63 is an int64, the word next to it on both sides is one or isn't; noughts are 0.
func TestP6_3_ToIntEnds(t *testing.T) {
	for _, m := range modes() {
		for _, k := range tables() {
			checkToInt(t, k, m, k.power(63)|k.sign, math.MinInt64, 0)
			checkToInt(t, k, m, 0, 0, 0)
			checkToInt(t, k, m, k.sign, 0, 0)
		}
		k, g := table32(), table64()
		checkToInt(t, k, m, 0x5EFFFFFF, 1<<63-1<<39, 0)
		checkToInt(t, k, m, 0xDEFFFFFF, -1<<63+1<<39, 0)
		checkToInt(t, k, m, 0xDF000001, 0, api.Invalid)
		checkToInt(t, g, m, 0x43DFFFFFFFFFFFFF, 1<<63-1<<10, 0)
		checkToInt(t, g, m, 0xC3DFFFFFFFFFFFFF, -1<<63+1<<10, 0)
		checkToInt(t, g, m, 0xC3E0000000000001, 0, api.Invalid)
	}
}
