package conv_test

import (
	"math"
	"testing"

	"cutplane/api"
	"cutplane/conv"
)

func checkScale(t *testing.T, k table, m api.Mode, w uint64, n int, want uint64, flags api.Flags) {
	t.Helper()
	got(conv.Scale(k.f, m, w, n)).is(t, want, flags, "Scale", k, m, w, uint64(n))
}

// farUp is powers of two that make each finite word too great.
func farUp() []int {
	return []int{2098, 2099, 4096, 1 << 13, 1<<13 + 1, 1 << 16, 1 << 24, 1<<24 + 1, 1 << 25, 1 << 31, 1 << 32, 1<<32 + 1, 1 << 62, math.MaxInt - 2000, math.MaxInt - 1, math.MaxInt}
}

// farDown is powers of two that make each finite word less than half of the least one.
func farDown() []int {
	list := []int{math.MinInt, math.MinInt + 1, math.MinInt + 2000}
	for _, n := range farUp()[1:] {
		list = append(list, -n)
	}
	return append(list, -2100)
}

func nearShifts() []int {
	return []int{0, 1, -1, 2, -2, 23, -24, 52, -53, 149, -150, 200, -200, 1024, -1075}
}

func TestP6_4_ScaleKinds(t *testing.T) {
	for _, k := range tables() {
		for _, n := range append(append(farUp(), farDown()...), nearShifts()...) {
			for _, m := range modes() {
				for _, w := range k.nans() {
					checkScale(t, k, m, w, n, k.nan, 0)
				}
				for _, w := range k.signed(0, k.inf) {
					checkScale(t, k, m, w, n, w, 0)
				}
			}
		}
	}
}

// TestP6_4_ScaleFar: any int may be the power.
func TestP6_4_ScaleFar(t *testing.T) {
	for _, k := range tables() {
		for _, w := range k.edges() {
			for i, m := range modes() {
				for _, n := range farUp() {
					checkScale(t, k, m, w, n, k.over5()[i], bothOver)
					checkScale(t, k, mirror(m), w|k.sign, n, k.over5()[i]|k.sign, bothOver)
				}
				for _, n := range farDown() {
					checkScale(t, k, m, w, n, up5(0)[i], bothUnder)
					checkScale(t, k, mirror(m), w|k.sign, n, up5(0)[i]|k.sign, bothUnder)
				}
			}
		}
	}
}

// scaleRow is a row with a power.
type scaleRow struct {
	row
	n int
}

func scaleRows(k table) []scaleRow {
	low, one, great, half := k.step(), k.power(0), k.inf-1, k.power(-1)
	none, over, under := same5(0), same5(bothOver), same5(bothUnder)
	return []scaleRow{
		{row{"by 0", one + 1, all5(one + 1), none}, 0},
		{row{"the greatest by 0", great, all5(great), none}, 0},
		{row{"half of a word", one + 3, all5(half + 3), none}, -1},
		{row{"the greatest twice", great, k.over5(), over}, 1},
		{row{"the greatest power of two", one, all5(k.power(k.limit - 1)), none}, k.limit - 1},
		{row{"2^T", one, k.over5(), over}, k.limit},
		{row{"from the least to the greatest power of two", 1, all5(k.power(k.limit - 1)), none}, k.limit - 1 - k.least},
		{row{"from the least to 2^T", 1, k.over5(), over}, k.limit - k.least},
		{row{"to the greatest", k.power(1) - 1, all5(great), none}, k.limit - 1},
		{row{"the least twice", 1, all5(2), none}, 1},
		{row{"a subnormal one made normal", low - 1, all5(2*low - 2), none}, 1},
		{row{"the least made normal", 1, all5(low), none}, k.precision - 1},
		{row{"the least normal one halved", low, all5(low / 2), none}, -1},
		{row{"the least normal one made the least", low, all5(1), none}, 1 - k.precision},
		{row{"1 made the least", one, all5(1), none}, k.least},
		{row{"1 made half of it", one, half5(0), under}, k.least - 1},
		{row{"1 made a fourth of it", one, up5(0), under}, k.least - 2},
		{row{"just above 1 made more than half of it", one + 1, near5(0), under}, k.least - 1},
		{row{"just below 1 made less than half of it", one - 1, up5(0), under}, k.least - 1},
		{row{"half of the least", 1, half5(0), under}, -1},
		{row{"half of 3", 3, near5(1), under}, -1},
		{row{"half of 5", 5, half5(2), under}, -1},
		{row{"a fourth of 5", 5, up5(1), under}, -2},
		{row{"a fourth of 7", 7, near5(1), under}, -2},
		{row{"half of just above the least normal one", low + 1, half5(low / 2), under}, -1},
		{row{"half way to the least normal one", 2*low - 1, near5(low - 1), under}, -1},
		{row{"the greatest made just less than the least", great, near5(0), under}, k.least - k.limit},
		{row{"the greatest made less than half of it", great, up5(0), under}, k.least - k.limit - 1},
	}
}

func TestP6_4_ScaleRows(t *testing.T) {
	for _, k := range tables() {
		for _, r := range scaleRows(k) {
			t.Run(r.name, func(t *testing.T) {
				for i, m := range modes() {
					checkScale(t, k, m, r.x, r.n, r.words[i], r.flags[i])
					checkScale(t, k, mirror(m), r.x|k.sign, r.n, r.words[i]|k.sign, r.flags[i])
				}
			})
		}
	}
}

// checkScaled holds Scale of a finite word, no nought, against the model.
func checkScaled(t *testing.T, k table, w uint64, n int) {
	t.Helper()
	for _, m := range modes() {
		want, flags := k.rounded(scaled(k.value(w), n), m)
		checkScale(t, k, m, w, n, want, flags)
	}
}

// TestP6_4_ScaleThrown: powers that lead anywhere, to the subnormal words, and to the great ones.
func TestP6_4_ScaleThrown(t *testing.T) {
	d := dice(65)
	for _, k := range tables() {
		for _, w := range k.signed(k.edges()...) {
			for _, n := range nearShifts() {
				checkScaled(t, k, w, n)
			}
		}
		for range 2000 {
			w := k.anyWord(&d)
			if w%k.sign == 0 {
				continue
			}
			checkScaled(t, k, w, d.about(0, k.limit-k.least+3))
			checkScaled(t, k, w, d.about(-k.field(w)-k.precision/2, k.precision))
			checkScaled(t, k, w, d.about(k.bias()*2-k.field(w), 3))
		}
	}
}

// checkParts holds Parts against the frac and the exponent that are told.
func checkParts(t *testing.T, k table, w, want uint64, exp int) {
	t.Helper()
	if frac, n, e := conv.Parts(k.f, w); frac != want || n != exp || e != api.OK {
		t.Fatalf("Parts, format %d, of %x: %x, %d, error %d, not %x, %d", k.f, w, frac, n, e, want, exp)
	}
}

func TestP6_4_PartsRows(t *testing.T) {
	for _, k := range tables() {
		low, one, half, p := k.step(), k.power(0), k.power(-1), k.precision
		for _, r := range []struct {
			w, frac uint64
			exp     int
		}{
			{0, 0, 0},
			{1, half, k.least + 1},
			{2, half, k.least + 2},
			{3, half + low/2, k.least + 2},
			{5, half + low/4, k.least + 3},
			{low / 2, half, k.least + p - 1},
			{low - 1, one - 2, k.least + p - 1},
			{low, half, k.least + p},
			{low + 1, half + 1, k.least + p},
			{2*low - 1, one - 1, k.least + p},
			{half - 1, one - 1, -1},
			{half, half, 0},
			{one - 1, one - 1, 0},
			{one, half, 1},
			{one + 1, half + 1, 1},
			{k.bitsOf(5), k.bitsOf(0.625), 3},
			{k.power(k.limit - 1), half, k.limit},
			{k.inf - 1, one - 1, k.limit},
		} {
			checkParts(t, k, r.w, r.frac, r.exp)
			checkParts(t, k, r.w|k.sign, r.frac|k.sign, r.exp)
		}
	}
}

// TestP6_4_PartsNone: NaNs and infinite words have none.
func TestP6_4_PartsNone(t *testing.T) {
	for _, k := range tables() {
		for _, w := range append(k.nans(), k.signed(k.inf)...) {
			if frac, exp, e := conv.Parts(k.f, w); frac != 0 || exp != 0 || e != api.ErrNone {
				t.Fatalf("Parts, format %d, of %x: %x, %d, error %d", k.f, w, frac, exp, e)
			}
		}
	}
}

// TestP6_4_PartsLikeGo: words of all fields, and thrown ones, against the library; Scale puts the parts together again.
func TestP6_4_PartsLikeGo(t *testing.T) {
	d := dice(66)
	for _, k := range tables() {
		list := append(k.everyField(), k.signed(k.edges()...)...)
		for range 1000 {
			list = append(list, k.anyWord(&d), k.word(&d, 0, 0))
		}
		for _, w := range list {
			part, exp := math.Frexp(k.float(w))
			checkParts(t, k, w, k.bitsOf(part), exp)
			checkScale(t, k, api.ToDown, k.bitsOf(part), exp, w, 0)
		}
	}
}
