package round_test

import (
	"math"
	"math/big"
	"testing"

	"cutplane/api"
	"cutplane/round"
)

// far is a distance of exponents beyond all that a format has, in either direction.
const far = 2 * api.MaxExp

// checkQuo holds Quo, of all signs and in each mode, against the model.
func checkQuo(t *testing.T, k table, a, b *big.Int, expA, expB int) {
	t.Helper()
	x, y := form(a, expA), form(b, expB)
	size := ratio{a, b, expA - expB}
	for _, m := range modes() {
		for _, neg := range []bool{false, true} {
			wantW, wantFlags := k.model(m, neg, size)
			first, second := x, y
			if neg {
				first = minus(x)
			}
			w, flags, e := round.Quo(k.f, m, first, second)
			tell(t, "Quo", k, m, []api.Dyad{first, second}, w, flags, e, wantW, wantFlags)
			first, second = minus(first), minus(second)
			w, flags, e = round.Quo(k.f, m, first, second)
			tell(t, "Quo", k, m, []api.Dyad{first, second}, w, flags, e, wantW, wantFlags)
		}
	}
}

func TestP4_2_QuoNought(t *testing.T) {
	for _, k := range tables() {
		for _, m := range modes() {
			for _, b := range []api.Dyad{num(1, 0), num(-3, 0), num(7, -api.MaxExp), num(-1, api.MaxExp)} {
				w, flags, e := round.Quo(k.f, m, api.Dyad{}, b)
				tell(t, "Quo of nought", k, m, b, w, flags, e, 0, 0)
			}
		}
	}
}

// TestP4_2_QuoExact: a word times a number by the number is the word.
func TestP4_2_QuoExact(t *testing.T) {
	d := dice(43)
	for _, k := range tables() {
		for _, w := range k.words() {
			b, v := d.wide(90), dyadOf(k.float(w))
			a := new(big.Int).Mul(toBig(v), b)
			for _, m := range modes() {
				got, flags, e := round.Quo(k.f, m, form(a, v.Exp), form(b, 0))
				tell(t, "Quo", k, m, w, got, flags, e, w, 0)
				got, flags, e = round.Quo(k.f, m, form(a, v.Exp), minus(form(b, 0)))
				tell(t, "Quo", k, m, w, got, flags, e, w|k.sign, 0)
			}
		}
	}
}

// TestP4_2_QuoHalf: quotients just half way between words, and just beside that.
func TestP4_2_QuoHalf(t *testing.T) {
	d := dice(44)
	for _, k := range tables() {
		for range 1500 {
			half := plus(new(big.Int).Lsh(d.wide(k.precision), 1), 1)
			half.Or(half, pow(k.precision))
			b := plus(new(big.Int).Lsh(d.wide(100), 1), 1)
			exp := k.least - 3 + d.below(k.limit-k.least-k.precision+6)
			a := new(big.Int).Mul(half, b)
			checkQuo(t, k, a, b, exp, 0)
			checkQuo(t, k, plus(a, 1), b, exp, 0)
			checkQuo(t, k, less(a, 1), b, exp, 0)
		}
	}
}

// TestP4_2_QuoHalfByHand: (2^P + 1) by 1 and by 3 times 3, worked out by hand.
func TestP4_2_QuoHalfByHand(t *testing.T) {
	for _, k := range tables() {
		one, even := k.bitsOf(math.Ldexp(1, k.precision)), [5]uint64{0, 1, 0, 1, 0}
		beside := [5]uint64{1, 1, 0, 1, 0}
		less3 := [5]uint64{0, 0, 0, 1, 0}
		three := new(big.Int).Mul(plus(pow(k.precision), 1), big.NewInt(3))
		for i, m := range modes() {
			w, flags, e := round.Quo(k.f, m, form(three, 0), num(3, 0))
			tell(t, "Quo half way", k, m, "", w, flags, e, one+even[i], api.Inexact)
			w, flags, e = round.Quo(k.f, m, form(plus(three, 1), 0), num(3, 0))
			tell(t, "Quo just more", k, m, "", w, flags, e, one+beside[i], api.Inexact)
			w, flags, e = round.Quo(k.f, m, form(less(three, 1), 0), num(3, 0))
			tell(t, "Quo just less", k, m, "", w, flags, e, one+less3[i], api.Inexact)
		}
	}
}

func TestP4_2_QuoThrown(t *testing.T) {
	d := dice(45)
	for _, k := range tables() {
		for range 3000 {
			a, b := d.wide(150), d.wide(150)
			top := k.least - 8 + d.below(k.limit-k.least+16)
			checkQuo(t, k, a, b, top-a.BitLen(), -b.BitLen())
		}
		for range 1000 {
			a, b := d.wide(60), d.wide(60)
			for _, near := range []int{k.least, k.least + k.precision, k.limit} {
				checkQuo(t, k, a, b, near-3+d.below(7)-a.BitLen(), -b.BitLen())
			}
		}
		for range 10 {
			a, b := d.wide(32*api.MaxDigits), d.wide(32*api.MaxDigits)
			checkQuo(t, k, a, b, k.least-a.BitLen()+d.below(k.limit-k.least), -b.BitLen())
		}
	}
}

// TestP4_2_QuoFar: exponents at both ends, and quotients near 1 of numbers that are far from it.
func TestP4_2_QuoFar(t *testing.T) {
	long := less(pow(32*api.MaxDigits), 1)
	for _, k := range tables() {
		for _, a := range []*big.Int{big.NewInt(1), big.NewInt(3), long} {
			for _, b := range []*big.Int{big.NewInt(1), big.NewInt(7), long, less(long, 2)} {
				for _, end := range []int{-api.MaxExp, api.MaxExp} {
					checkQuo(t, k, a, b, end, -end)
					checkQuo(t, k, a, b, end, end)
					checkQuo(t, k, a, b, end, 0)
					checkQuo(t, k, a, b, 0, end)
					checkQuo(t, k, a, b, end, end+b.BitLen()*int(sign(-end)))
				}
			}
		}
		for i, m := range modes() {
			w, flags, e := round.Quo(k.f, m, num(1, api.MaxExp), num(1, -api.MaxExp))
			tell(t, "Quo", k, m, far, w, flags, e, [5]uint64{k.inf, k.inf, k.inf - 1, k.inf, k.inf - 1}[i], bothOver)
			w, flags, e = round.Quo(k.f, m, num(1, -api.MaxExp), num(1, api.MaxExp))
			tell(t, "Quo", k, m, -far, w, flags, e, [5]uint64{0, 0, 0, 1, 0}[i], bothUnder)
			w, flags, e = round.Quo(k.f, m, num(-1, -api.MaxExp), num(1, api.MaxExp))
			tell(t, "Quo", k, m, -far, w, flags, e, k.sign|[5]uint64{0, 0, 0, 0, 1}[i], bothUnder)
			w, flags, e = round.Quo(k.f, m, num(1, api.MaxExp), num(1, api.MaxExp))
			tell(t, "Quo", k, m, "1", w, flags, e, k.bitsOf(1), 0)
		}
	}
}

func sign(n int) int64 {
	if n < 0 {
		return -1
	}
	return 1
}

// TestP4_2_QuoLibrary: Go's own quotients are ToEven.
func TestP4_2_QuoLibrary(t *testing.T) {
	d := dice(46)
	k := tables()[1]
	for range 20000 {
		a, b := k.float(k.word(&d)), k.float(k.word(&d))
		w, _, e := round.Quo(api.F64, api.ToEven, dyadOf(a), dyadOf(b))
		if w != math.Float64bits(a/b) || e != api.OK {
			t.Fatalf("Quo of %g and %g: %x error %d", a, b, w, e)
		}
		a32, b32 := float32(a), float32(b)
		if a32 == 0 || b32 == 0 || math.IsInf(float64(a32), 0) || math.IsInf(float64(b32), 0) {
			continue
		}
		w, _, e = round.Quo(api.F32, api.ToEven, dyadOf(float64(a32)), dyadOf(float64(b32)))
		if w != uint64(math.Float32bits(a32/b32)) || e != api.OK {
			t.Fatalf("Quo of %g and %g: %x error %d", a32, b32, w, e)
		}
	}
}

// checkRoot holds Root in each mode against the model.
func checkRoot(t *testing.T, k table, n *big.Int, exp int) {
	t.Helper()
	d := form(n, exp)
	for _, m := range modes() {
		wantW, wantFlags := k.model(m, false, square{n, exp})
		w, flags, e := round.Root(k.f, m, d)
		tell(t, "Root", k, m, d, w, flags, e, wantW, wantFlags)
	}
}

func TestP4_2_RootNought(t *testing.T) {
	for _, k := range tables() {
		for _, m := range modes() {
			w, flags, e := round.Root(k.f, m, api.Dyad{})
			tell(t, "Root of nought", k, m, "", w, flags, e, 0, 0)
		}
	}
}

// TestP4_2_RootExact: the root of a word's square is the word.
func TestP4_2_RootExact(t *testing.T) {
	for _, k := range tables() {
		for _, w := range k.words() {
			v := dyadOf(k.float(w))
			n := toBig(v)
			d := form(n.Mul(n, n), 2*v.Exp)
			for _, m := range modes() {
				got, flags, e := round.Root(k.f, m, d)
				tell(t, "Root", k, m, w, got, flags, e, w, 0)
			}
		}
	}
}

// TestP4_2_RootHalf: roots just half way between words, and just beside that, within the words and below the normal ones.
func TestP4_2_RootHalf(t *testing.T) {
	d := dice(47)
	for _, k := range tables() {
		for range 1500 {
			half := plus(new(big.Int).Lsh(d.wide(k.precision), 1), 1)
			exp := k.least - 3 + d.below(k.limit-k.least-k.precision+6)
			if d.below(2) == 0 {
				half.Or(half, pow(k.precision))
			} else {
				exp = k.least - 1
			}
			n := new(big.Int).Mul(half, half)
			checkRoot(t, k, n, 2*exp)
			checkRoot(t, k, plus(n, 1), 2*exp)
			checkRoot(t, k, less(n, 1), 2*exp)
			fine := new(big.Int).Lsh(n, 1000)
			checkRoot(t, k, plus(fine, 1), 2*exp-1000)
			checkRoot(t, k, less(fine, 1), 2*exp-1000)
		}
	}
}

// TestP4_2_RootEdges: odd exponents, roots far out, and the ends of the exponent.
func TestP4_2_RootEdges(t *testing.T) {
	long := less(pow(32*api.MaxDigits), 1)
	for _, k := range tables() {
		for _, exp := range []int{-api.MaxExp, 1 - api.MaxExp, 2*k.least - 3, 2*k.least - 2, 2*k.least - 1, 2 * k.least, -3, -1, 0, 1, 3, 2*k.limit - 1, 2 * k.limit, 2*k.limit + 1, api.MaxExp - 1, api.MaxExp} {
			for _, n := range []*big.Int{big.NewInt(1), big.NewInt(3), big.NewInt(5), big.NewInt(9), big.NewInt(1<<53 - 1)} {
				checkRoot(t, k, n, exp)
			}
			checkRoot(t, k, long, max(exp-32*api.MaxDigits, -api.MaxExp))
		}
		for i, m := range modes() {
			w, flags, e := round.Root(k.f, m, num(1, api.MaxExp))
			tell(t, "Root", k, m, api.MaxExp, w, flags, e, [5]uint64{k.inf, k.inf, k.inf - 1, k.inf, k.inf - 1}[i], bothOver)
			w, flags, e = round.Root(k.f, m, num(1, -api.MaxExp))
			tell(t, "Root", k, m, -api.MaxExp, w, flags, e, [5]uint64{0, 0, 0, 1, 0}[i], bothUnder)
		}
	}
}

func TestP4_2_RootThrown(t *testing.T) {
	d := dice(48)
	for _, k := range tables() {
		for range 3000 {
			n := d.wide(200)
			checkRoot(t, k, n, 2*k.least-16+d.below(2*(k.limit-k.least)+32)-n.BitLen())
		}
		for range 10 {
			n := d.wide(32 * api.MaxDigits)
			checkRoot(t, k, n, 2*k.least+d.below(2*(k.limit-k.least))-n.BitLen())
		}
	}
}

// TestP4_2_RootLibrary: Go's own root is ToEven.
func TestP4_2_RootLibrary(t *testing.T) {
	d := dice(49)
	k := tables()[1]
	for range 20000 {
		a := k.float(k.word(&d))
		w, _, e := round.Root(api.F64, api.ToEven, dyadOf(a))
		if w != math.Float64bits(math.Sqrt(a)) || e != api.OK {
			t.Fatalf("Root of %g: %x error %d", a, w, e)
		}
	}
}
