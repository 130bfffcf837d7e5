package conv_test

import (
	"math"
	"testing"

	"cutplane/api"
	"cutplane/conv"
)

func checkRem(t *testing.T, k table, a, b, want uint64, flags api.Flags) {
	t.Helper()
	got(conv.Rem(k.f, a, b)).is(t, want, flags, "Rem", k, 0, a, b)
}

// checkRemSigns holds Rem of words above nought, and of those with other signs, against the word that is left.
func checkRemSigns(t *testing.T, k table, a, b, want uint64) {
	t.Helper()
	for _, divisor := range k.signed(b) {
		checkRem(t, k, a, divisor, want, 0)
		checkRem(t, k, a|k.sign, divisor, want^k.sign, 0)
	}
}

// TestP6_5_NaNs: a NaN among both, whatever the other one is.
func TestP6_5_NaNs(t *testing.T) {
	for _, k := range tables() {
		others := append(k.nans(), k.signed(append(k.edges(), 0, k.inf)...)...)
		for _, none := range k.nans() {
			for _, w := range others {
				checkRem(t, k, none, w, k.nan, 0)
				checkRem(t, k, w, none, k.nan, 0)
			}
		}
	}
}

// TestP6_5_Invalid: the first word infinite, or the second one a nought.
func TestP6_5_Invalid(t *testing.T) {
	for _, k := range tables() {
		for _, w := range k.signed(append(k.edges(), 0, k.inf)...) {
			for _, inf := range k.signed(k.inf) {
				checkRem(t, k, inf, w, k.nan, api.Invalid)
			}
			for _, zero := range k.signed(0) {
				checkRem(t, k, w, zero, k.nan, api.Invalid)
			}
		}
	}
}

// TestP6_5_Itself: by an infinite word each finite one is left; a nought is left by each word that is none.
func TestP6_5_Itself(t *testing.T) {
	for _, k := range tables() {
		for _, w := range k.signed(append(k.edges(), 0)...) {
			checkRem(t, k, w, k.inf, w, 0)
			checkRem(t, k, w, k.inf|k.sign, w, 0)
		}
		for _, w := range k.edges() {
			checkRemSigns(t, k, 0, w, 0)
		}
	}
}

// TestP6_5_Small: small whole numbers, halves of the divisor among them.
func TestP6_5_Small(t *testing.T) {
	for _, r := range [][3]float64{
		{5, 3, -1}, {4, 3, 1}, {3, 3, 0}, {6, 3, 0}, {2, 3, -1}, {1, 3, 1},
		{1, 2, 1}, {3, 2, -1}, {5, 2, 1}, {7, 2, -1}, {9, 2, 1}, {2, 4, 2}, {6, 4, -2}, {10, 4, 2},
		{1.5, 1, -0.5}, {2.5, 1, 0.5}, {0.5, 1, 0.5}, {0.75, 1, -0.25}, {0.75, 0.5, -0.25}, {1.25, 0.5, 0.25},
		{1000, 7, -1}, {1003, 7, 2}, {1, 1000, 1}, {499, 1000, 499}, {500, 1000, 500}, {501, 1000, -499}, {1500, 1000, -500},
	} {
		for _, k := range tables() {
			checkRemSigns(t, k, k.bitsOf(r[0]), k.bitsOf(r[1]), k.bitsOf(r[2]))
		}
	}
}

// TestP6_5_Ends: words at both ends, and far apart.
func TestP6_5_Ends(t *testing.T) {
	for _, k := range tables() {
		low, one, great, s := k.step(), k.power(0), k.inf-1, k.sign
		for _, r := range [][3]uint64{
			{1, 1, 0}, {1, 2, 1}, {3, 2, s | 1}, {5, 2, 1}, {2, 3, s | 1}, {low, low - 1, 1}, {low - 1, low, s | 1},
			{1, great, 1}, {great, 1, 0}, {great, low, 0}, {great, one, 0}, {great, great, 0}, {great - 1, great, s | k.power(k.limit-k.precision)},
			{great, k.power(k.limit - 1), s | k.power(k.limit-k.precision)}, {k.power(k.limit - 1), great, s | (k.power(k.limit-1) - 2)},
			{k.power(k.limit-2) - 1, k.power(k.limit - 1), k.power(k.limit-2) - 1}, {k.power(k.limit - 2), k.power(k.limit - 1), k.power(k.limit - 2)},
			{k.power(k.limit-2) + 1, k.power(k.limit - 1), s | (k.power(k.limit-2) - 2)},
			{one, one + 1, s | k.power(1-k.precision)}, {one + 1, one, k.power(1 - k.precision)},
			{k.power(k.precision) + 1, k.power(1) + low/2, k.remOfThree()},
		} {
			checkRemSigns(t, k, r[0], r[1], r[2])
		}
	}
}

// remOfThree is what 2^P + 2 leaves by 3: P is even in F32 (so 2^P is 1 more than a multiple) and odd in F64 (2 more).
func (k table) remOfThree() uint64 {
	if k.f == api.F32 {
		return 0
	}
	return k.bitsOf(1)
}

// checkRemainder holds Rem of two finite words, the second one no nought, against the model.
func checkRemainder(t *testing.T, k table, a, b uint64) {
	t.Helper()
	left := k.remainder(k.value(a), k.value(b))
	want := a & k.sign
	if left.Sign() != 0 {
		want = k.wordOf(left)
	}
	checkRem(t, k, a, b, want, 0)
}

// TestP6_5_EdgesCrossed: each edge by each other one, of both signs.
func TestP6_5_EdgesCrossed(t *testing.T) {
	for _, k := range tables() {
		for _, a := range k.signed(k.edges()...) {
			for _, b := range k.signed(k.edges()...) {
				checkRemainder(t, k, a, b)
			}
		}
	}
}

// TestP6_5_Thrown: words of any size, of like size, and just half way between multiples.
func TestP6_5_Thrown(t *testing.T) {
	d := dice(67)
	for _, k := range tables() {
		for range 2000 {
			a, b := k.anyWord(&d), k.anyWord(&d)|1
			checkRemainder(t, k, a, b)
			checkRemainder(t, k, a, k.word(&d, k.field(a), 2)|1)
			checkRemainder(t, k, a, k.word(&d, k.field(a)-k.precision, 3)|1)
			// A short odd number times half of b is half way between two multiples of b.
			short := k.bitsOf(float64(2*d.below(1000) + 1))
			b = k.word(&d, k.bias(), k.bias()-20)
			b = b - b%(1<<12) + 1<<12
			tie := k.wordOf(scaled(exactly(blank().Mul(k.value(short), k.value(b))), -1))
			checkRemainder(t, k, tie, b)
		}
	}
}

// TestP6_5_LikeGo: what is left is what the library leaves.
func TestP6_5_LikeGo(t *testing.T) {
	d := dice(68)
	for _, k := range tables() {
		for range 2000 {
			a, b := k.anyWord(&d), k.anyWord(&d)|1
			checkRem(t, k, a, b, k.bitsOf(math.Remainder(k.float(a), k.float(b))), 0)
			b = k.word(&d, k.field(a), k.precision) | 1
			checkRem(t, k, a, b, k.bitsOf(math.Remainder(k.float(a), k.float(b))), 0)
		}
	}
}
