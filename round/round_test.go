package round_test

import (
	"math"
	"math/big"
	"slices"
	"testing"

	"cutplane/api"
	"cutplane/round"
)

// checkRound holds Round of n times 2^exp, of both signs and in each mode, against the model.
func checkRound(t *testing.T, k table, n *big.Int, exp int) {
	t.Helper()
	d := form(n, exp)
	for _, m := range modes() {
		x := ratio{n, big.NewInt(1), exp}
		wantW, wantFlags := k.model(m, false, x)
		w, flags, e := round.Round(k.f, m, d)
		tell(t, "Round", k, m, d, w, flags, e, wantW, wantFlags)
		wantW, wantFlags = k.model(m, true, x)
		w, flags, e = round.Round(k.f, m, minus(d))
		tell(t, "Round", k, m, minus(d), w, flags, e, wantW, wantFlags)
	}
}

// TestP4_1_Nought: nought is +0 without flags.
func TestP4_1_Nought(t *testing.T) {
	for _, k := range tables() {
		for _, m := range modes() {
			for _, d := range []api.Dyad{{}, {Mag: []uint32{}}} {
				w, flags, e := round.Round(k.f, m, d)
				tell(t, "Round", k, m, d, w, flags, e, 0, 0)
			}
		}
	}
}

// TestP4_1_Words: a word's value is rounded to the word.
func TestP4_1_Words(t *testing.T) {
	for _, k := range tables() {
		for _, w := range k.words() {
			d := dyadOf(k.float(w))
			for _, m := range modes() {
				got, flags, e := round.Round(k.f, m, d)
				tell(t, "Round", k, m, d, got, flags, e, w, 0)
				got, flags, e = round.Round(k.f, m, minus(d))
				tell(t, "Round", k, m, minus(d), got, flags, e, w|k.sign, 0)
			}
		}
	}
}

// row is what the modes ToEven, ToAway, ToZero, ToUp, ToDown answer of a number above nought.
type row struct {
	name  string
	n     *big.Int
	exp   int
	words [5]uint64
	flags [5]api.Flags
}

func same5(f api.Flags) [5]api.Flags { return [5]api.Flags{f, f, f, f, f} }

// greatRows is numbers about 2^T.
func greatRows(k table) []row {
	great, inf, p, exp := k.inf-1, k.inf, k.precision, k.limit-k.precision-1
	out := [5]uint64{inf, inf, great, inf, great}
	return []row{
		{"2^T", big.NewInt(1), k.limit, out, same5(bothOver)},
		{"just above 2^T", plus(pow(200), 1), k.limit - 200, out, same5(bothOver)},
		{"one bit far above", big.NewInt(1), api.MaxExp, out, same5(bothOver)},
		{"all bits far above", less(pow(32*api.MaxDigits), 1), api.MaxExp, out, same5(bothOver)},
		{"half a unit below 2^T", less(pow(p+1), 1), exp, out, [5]api.Flags{bothOver, bothOver, api.Inexact, bothOver, api.Inexact}},
		{"nearer to 2^T", less(pow(p+1+80), 1<<62+1), exp - 80, out, [5]api.Flags{bothOver, bothOver, api.Inexact, bothOver, api.Inexact}},
		{"just less than that", less(pow(p+1+60), 1<<60+1), exp - 60, [5]uint64{great, great, great, inf, great}, [5]api.Flags{api.Inexact, api.Inexact, api.Inexact, bothOver, api.Inexact}},
		{"the greatest", less(pow(p), 1), exp + 1, [5]uint64{great, great, great, great, great}, same5(0)},
		{"just above the greatest", plus(new(big.Int).Lsh(less(pow(p), 1), 5000), 1), exp + 1 - 5000, [5]uint64{great, great, great, inf, great}, [5]api.Flags{api.Inexact, api.Inexact, api.Inexact, bothOver, api.Inexact}},
	}
}

// normalRows is numbers about the least normal one. Below it a unit of the smaller kind is half a unit of the words.
func normalRows(k table) []row {
	low := uint64(1) << (k.precision - 1)
	p, exp := k.precision, k.least-2
	three := [5]api.Flags{api.Inexact, api.Inexact, bothUnder, api.Inexact, bothUnder}
	under := [5]api.Flags{bothUnder, bothUnder, bothUnder, api.Inexact, bothUnder}
	return []row{
		{"the least normal number", big.NewInt(1), k.least + p - 1, [5]uint64{low, low, low, low, low}, same5(0)},
		{"just above it", plus(pow(p+300), 1), k.least - 301, [5]uint64{low, low, low, low + 1, low}, same5(api.Inexact)},
		{"half a smaller unit below it", less(pow(p+1), 1), exp, [5]uint64{low, low, low - 1, low, low - 1}, three},
		{"just less below it", less(pow(p+1+40), 1<<40-1), exp - 40, [5]uint64{low, low, low - 1, low, low - 1}, three},
		{"just more below it", less(pow(p+1+40), 1<<40+1), exp - 40, [5]uint64{low, low, low - 1, low, low - 1}, under},
		{"a smaller unit below it", less(pow(p), 1), exp + 1, [5]uint64{low, low, low - 1, low, low - 1}, same5(bothUnder)},
		{"more than a smaller unit below it", less(pow(p+40), 1<<40+1), exp + 1 - 40, [5]uint64{low - 1, low - 1, low - 1, low, low - 1}, same5(bothUnder)},
		{"a unit below it", less(pow(p-1), 1), k.least, [5]uint64{low - 1, low - 1, low - 1, low - 1, low - 1}, same5(0)},
	}
}

// leastRows is numbers about 2^L and below.
func leastRows(k table) []row {
	up := [5]uint64{0, 0, 0, 1, 0}
	return []row{
		{"2^L", big.NewInt(1), k.least, [5]uint64{1, 1, 1, 1, 1}, same5(0)},
		{"half of 2^L", big.NewInt(1), k.least - 1, [5]uint64{0, 1, 0, 1, 0}, same5(bothUnder)},
		{"just less", less(pow(90), 1), k.least - 91, up, same5(bothUnder)},
		{"just more", plus(pow(90), 1), k.least - 91, [5]uint64{1, 1, 0, 1, 0}, same5(bothUnder)},
		{"a quarter of 2^L", big.NewInt(1), k.least - 2, up, same5(bothUnder)},
		{"just less than 2^L", less(pow(90), 1), k.least - 90, [5]uint64{1, 1, 0, 1, 0}, same5(bothUnder)},
		{"just more than 2^L", plus(pow(90), 1), k.least - 90, [5]uint64{1, 1, 1, 2, 1}, same5(bothUnder)},
		{"half way from 2^L to the next", big.NewInt(3), k.least - 1, [5]uint64{2, 2, 1, 2, 1}, same5(bothUnder)},
		{"half way to the odd one", big.NewInt(5), k.least - 1, [5]uint64{2, 3, 2, 3, 2}, same5(bothUnder)},
		{"one bit far below", big.NewInt(1), -api.MaxExp, up, same5(bothUnder)},
		{"all bits far below", less(pow(32*api.MaxDigits), 1), -api.MaxExp, up, same5(bothUnder)},
	}
}

// middleRows is numbers between two words.
func middleRows(k table) []row {
	p := k.precision
	one := k.bitsOf(1)
	inexact := same5(api.Inexact)
	return []row{
		{"half way, the even one below", plus(pow(p), 1), -p, [5]uint64{one, one + 1, one, one + 1, one}, inexact},
		{"half way, the even one above", plus(pow(p), 3), -p, [5]uint64{one + 2, one + 2, one + 1, one + 2, one + 1}, inexact},
		{"half way to a power of two", less(pow(p+1), 1), -p - 1, [5]uint64{one, one, one - 1, one, one - 1}, inexact},
		{"just less than half way", less(plus(new(big.Int).Lsh(plus(pow(p), 1), 9000), 0), 1), -p - 9000, [5]uint64{one, one, one, one + 1, one}, inexact},
		{"just more than half way", plus(new(big.Int).Lsh(plus(pow(p), 1), 9000), 1), -p - 9000, [5]uint64{one + 1, one + 1, one, one + 1, one}, inexact},
		{"just more than a word", plus(pow(32*api.MaxDigits-1), 1), 1 - 32*api.MaxDigits, [5]uint64{one, one, one, one + 1, one}, inexact},
		{"just less than a word", less(pow(32*api.MaxDigits), 1), -32 * api.MaxDigits, [5]uint64{one, one, one - 1, one, one - 1}, inexact},
		{"a bit just below the 64th", plus(pow(64), 1), -64, [5]uint64{one, one, one, one + 1, one}, inexact},
		{"the 64th bit", plus(pow(63), 1), -63, [5]uint64{one, one, one, one + 1, one}, inexact},
		{"half way and a bit below the 64th", plus(new(big.Int).Lsh(plus(pow(p), 1), uint(64-p)), 1), -64, [5]uint64{one + 1, one + 1, one, one + 1, one}, inexact},
	}
}

// TestP4_1_Edges: what the steps tell of each edge, worked out by hand; the other sign has it in the mirrored modes.
func TestP4_1_Edges(t *testing.T) {
	for _, k := range tables() {
		for _, r := range slices.Concat(greatRows(k), normalRows(k), leastRows(k), middleRows(k)) {
			d := form(r.n, r.exp)
			for i, m := range modes() {
				w, flags, e := round.Round(k.f, m, d)
				tell(t, "Round", k, m, r.name, w, flags, e, r.words[i], r.flags[i])
				w, flags, e = round.Round(k.f, mirror(m), minus(d))
				tell(t, "Round below nought", k, mirror(m), r.name, w, flags, e, r.words[i]|k.sign, r.flags[i])
			}
		}
	}
}

// TestP4_1_Between: numbers half way between words and beside that.
func TestP4_1_Between(t *testing.T) {
	for _, k := range tables() {
		for i, w := range k.words() {
			a, b := dyadOf(k.float(w)), dyadOf(k.float(w+1))
			if w == k.inf-1 {
				b = num(1, k.limit)
			}
			// In units of half the unit of words, and finer ones, both words are whole.
			unit := min(a.Exp, b.Exp) - 1
			half := new(big.Int).Lsh(toBig(a), uint(a.Exp-unit))
			half.Add(half, new(big.Int).Lsh(toBig(b), uint(b.Exp-unit)))
			half.Rsh(half, 1)
			checkRound(t, k, half, unit)
			fines := []int{1, 2, 9, 10, 11, 12, 39, 40, 41, 64, 100}
			for _, fine := range []int{fines[i%len(fines)], fines[i/7%len(fines)]} {
				beside := new(big.Int).Lsh(half, uint(fine))
				checkRound(t, k, plus(beside, 1), unit-fine)
				checkRound(t, k, less(beside, 1), unit-fine)
			}
		}
	}
}

// TestP4_1_Thrown: numbers of any bits about the formats and beyond, against the model.
func TestP4_1_Thrown(t *testing.T) {
	d := dice(41)
	for _, k := range tables() {
		for range 4000 {
			n := d.wide(200)
			top := k.least - 8 + d.below(k.limit-k.least+16)
			checkRound(t, k, n, top-n.BitLen())
		}
		for range 2000 {
			n := d.wide(120)
			for _, near := range []int{k.least, k.least + k.precision, k.limit} {
				checkRound(t, k, n, near-3+d.below(7)-n.BitLen())
			}
		}
		for range 20 {
			n := d.wide(32 * api.MaxDigits)
			checkRound(t, k, n, k.least-8+d.below(k.limit-k.least+16)-n.BitLen())
		}
	}
}

// TestP4_1_Library: Go's own conversion is ToEven, and its wide floats have all five modes, without bounds of the exponent.
func TestP4_1_Library(t *testing.T) {
	f32, f64 := tables()[0], tables()[1]
	d := dice(42)
	for range 20000 {
		x := math.Float64frombits(f64.word(&d))
		if d.below(2) == 0 {
			x = math.Ldexp(1+float64(d.next()>>12)/(1<<52), d.below(300)-160)
		}
		w, _, e := round.Round(api.F32, api.ToEven, dyadOf(x))
		if w != uint64(math.Float32bits(float32(x))) || e != api.OK {
			t.Fatalf("Round of %g: %x error %d", x, w, e)
		}
	}
	wide := []big.RoundingMode{big.ToNearestEven, big.ToNearestAway, big.ToZero, big.ToPositiveInf, big.ToNegativeInf}
	for _, k := range []table{f32, f64} {
		for range 4000 {
			n := signed(d.wide(300), d.below(2) == 0)
			exp := d.below(100) - 50 - n.BitLen()
			for i, m := range modes() {
				x := new(big.Float).SetPrec(uint(k.precision)).SetMode(wide[i]).SetInt(n)
				want, _ := x.SetMantExp(x, exp).Float64()
				w, _, e := round.Round(k.f, m, form(n, exp))
				if w != k.bitsOf(want) || e != api.OK {
					t.Fatalf("Round of %v times 2^%d, mode %d: %x error %d, not %g", n, exp, m, w, e, want)
				}
			}
		}
	}
}

func TestP4_3_Over(t *testing.T) {
	for _, k := range tables() {
		great := [5]uint64{k.inf, k.inf, k.inf - 1, k.inf, k.inf - 1}
		for i, m := range modes() {
			if w, e := round.Over(k.f, m, false); w != great[i] || e != api.OK {
				t.Errorf("Over, format %d, mode %d: %x error %d", k.f, m, w, e)
			}
			if w, e := round.Over(k.f, mirror(m), true); w != great[i]|k.sign || e != api.OK {
				t.Errorf("Over below nought, format %d, mode %d: %x error %d", k.f, mirror(m), w, e)
			}
			for _, neg := range []bool{false, true} {
				w, _ := round.Over(k.f, m, neg)
				got, flags, e := round.Round(k.f, m, form(signed(big.NewInt(1), neg), k.limit))
				tell(t, "Round of 2^T", k, m, neg, got, flags, e, w, bothOver)
			}
		}
	}
}

func TestP4_3_OverWrong(t *testing.T) {
	for _, neg := range []bool{false, true} {
		for _, f := range noFormats() {
			for _, m := range append(modes(), noModes()...) {
				w, e := round.Over(f, m, neg)
				refused(t, "Over in no format", w, 0, e, api.ErrFormat)
			}
		}
		for _, k := range tables() {
			for _, m := range noModes() {
				w, e := round.Over(k.f, m, neg)
				refused(t, "Over in no mode", w, 0, e, api.ErrMode)
			}
		}
	}
}
