package dyad_test

import (
	"math/big"
	"testing"

	"cutplane/api"
	"cutplane/dyad"
)

// highest is the highest bits of n in units of 2^exp, and whether others that are 1 stood below.
func highest(n *big.Int, exp, bits int) (api.Dyad, bool) {
	drop := max(n.BitLen()-bits, 0)
	size := new(big.Int).Abs(n)
	kept := new(big.Int).Rsh(size, uint(drop))
	lost := int(size.TrailingZeroBits()) < drop
	if n.Sign() < 0 {
		kept.Neg(kept)
	}
	return form(kept, exp+drop), lost
}

func checkCut(t *testing.T, d api.Dyad, bits int) {
	t.Helper()
	want, lost := highest(units(d, d.Exp), d.Exp, bits)
	got, gotLost, e := dyad.Cut(d, bits)
	tellCut(t, "Cut of "+show(d), got, gotLost, e, want, lost, bounded(want))
}

// checkQuo reckons the quotient with so many bits that what is left tells only whether it is exact.
func checkQuo(t *testing.T, a, b api.Dyad, bits int) {
	t.Helper()
	got, lost, e := dyad.Quo(a, b, bits)
	if len(b.Mag) == 0 {
		tellCut(t, "Quo by nought", got, lost, e, api.Dyad{}, false, api.ErrZero)
		return
	}
	x, y := units(a, a.Exp), units(b, b.Exp)
	up := max(0, bits+y.BitLen()-x.BitLen()+5)
	q, r := new(big.Int).QuoRem(new(big.Int).Lsh(x, uint(up)), y, new(big.Int))
	want, wantLost := highest(q, a.Exp-b.Exp-up, bits)
	tellCut(t, "Quo of "+show(a)+" by "+show(b), got, lost, e, want, wantLost || r.Sign() != 0, bounded(want))
}

func checkRoot(t *testing.T, d api.Dyad, bits int) {
	t.Helper()
	got, lost, e := dyad.Root(d, bits)
	if d.Neg {
		tellCut(t, "Root below nought", got, lost, e, api.Dyad{}, false, api.ErrLess)
		return
	}
	x := units(d, d.Exp)
	up := max(0, 2*bits+4-x.BitLen())
	up += (d.Exp - up) & 1
	x.Lsh(x, uint(up))
	r := new(big.Int).Sqrt(x)
	whole := new(big.Int).Mul(r, r).Cmp(x) == 0
	want, wantLost := highest(r, (d.Exp-up)/2, bits)
	tellCut(t, "Root of "+show(d), got, lost, e, want, wantLost || !whole, api.OK)
}

func TestP2_6_Cut(t *testing.T) {
	d := dice(27)
	for range 2000 {
		checkCut(t, d.number(6, 300), 1+d.below(200))
	}
	for _, x := range edges() {
		for _, bits := range []int{1, 2, 3, 31, 32, 33, 64, 8191, api.MaxBits} {
			checkCut(t, x, bits)
		}
	}
}

func TestP2_6_Named(t *testing.T) {
	for _, c := range []struct {
		d    api.Dyad
		bits int
		want api.Dyad
		lost bool
		e    api.Errno
	}{
		{num(7, 0), 2, num(6, 0), true, api.OK},
		{num(-5, 0), 3, num(-5, 0), false, api.OK},
		{num(-5, 0), 2, num(-4, 0), true, api.OK},
		{api.Dyad{}, 1, api.Dyad{}, false, api.OK},
		{num(5, far), 3, num(5, far), false, api.OK},
		{num(5, far), 2, api.Dyad{}, false, api.ErrRange},
		{num(5, far-2), 1, num(1, far), true, api.OK},
		{num(-5, -far), 1, num(-1, 2-far), true, api.OK},
		{ones(longest), api.MaxBits, form(minusOne(api.MaxBits), longest-api.MaxBits), true, api.OK},
		{form(minusOne(longest), far-longest+1), 1, num(1, far), true, api.OK},
		{form(minusOne(longest), far-longest+2), 1, api.Dyad{}, false, api.ErrRange},
	} {
		got, lost, e := dyad.Cut(c.d, c.bits)
		tellCut(t, "Cut of "+show(c.d), got, lost, e, c.want, c.lost, c.e)
	}
}

// asked is each call of which bits are asked, of two numbers.
func asked() map[string]func(a, b api.Dyad, bits int) (api.Dyad, bool, api.Errno) {
	return map[string]func(a, b api.Dyad, bits int) (api.Dyad, bool, api.Errno){
		"Cut":  func(a, _ api.Dyad, bits int) (api.Dyad, bool, api.Errno) { return dyad.Cut(a, bits) },
		"Root": func(a, _ api.Dyad, bits int) (api.Dyad, bool, api.Errno) { return dyad.Root(a, bits) },
		"Quo":  dyad.Quo,
		"Quo, the divisor ahead": func(a, b api.Dyad, bits int) (api.Dyad, bool, api.Errno) {
			return dyad.Quo(b, a, bits)
		},
	}
}

// TestP2_6_P2_7_Asked: bits that may not be asked for come ahead of all but numbers that may not be.
func TestP2_6_P2_7_Asked(t *testing.T) {
	for name, call := range asked() {
		for _, x := range append(edges(), num(-1, 0)) {
			for _, bits := range []int{0, -1, -100, leastInt} {
				got, lost, e := call(x, api.Dyad{}, bits)
				tellCut(t, name, got, lost, e, api.Dyad{}, false, api.ErrArg)
			}
			for _, bits := range []int{api.MaxBits + 1, 1 << 30, greatInt} {
				got, lost, e := call(x, api.Dyad{}, bits)
				tellCut(t, name, got, lost, e, api.Dyad{}, false, api.ErrLong)
			}
		}
		for _, w := range wrong() {
			for _, bits := range []int{1, 0, -5, api.MaxBits, api.MaxBits + 1, greatInt, leastInt} {
				got, lost, e := call(w, num(1, 0), bits)
				tellCut(t, name, got, lost, e, api.Dyad{}, false, api.ErrArg)
				got, lost, e = call(w, api.Dyad{}, bits)
				tellCut(t, name, got, lost, e, api.Dyad{}, false, api.ErrArg)
			}
		}
	}
}

func TestP2_7_Quo(t *testing.T) {
	d := dice(28)
	for range 4000 {
		a, b, bits := d.number(7, 100), d.number(7, 100), 1+d.below(150)
		checkQuo(t, a, b, bits)
		// A quotient that is exact, or all but exact, on purpose.
		p, e := dyad.Mul(a, b)
		if e == api.OK {
			checkQuo(t, p, b, bits)
		}
		if p, e = dyad.Add(p, num(int64(d.below(3))-1, d.below(200)-300)); e == api.OK {
			checkQuo(t, p, b, bits)
		}
	}
	for _, a := range edges() {
		for _, b := range edges() {
			for _, bits := range []int{1, 2, 33, 64, 100} {
				checkQuo(t, a, b, bits)
			}
		}
	}
}

// TestP2_7_QuoLong: dividends and divisors about the bound of MaxDigits digits, exact quotients and those next to them among them.
func TestP2_7_QuoLong(t *testing.T) {
	d := dice(29)
	for range 60 {
		b := d.number(api.MaxDigits, 10)
		for _, bits := range []int{1, 2, 53, 1000 + d.below(1000), api.MaxBits - 1, api.MaxBits} {
			checkQuo(t, num(1, 0), b, bits)
			checkQuo(t, d.number(api.MaxDigits, 50), b, bits)
			checkQuo(t, b, b, bits)
		}
		checkProductsQuo(t, &d, b)
	}
	full := ones(longest)
	for _, a := range []api.Dyad{num(1, 0), full, num(-3, 0), ones(longest - 1), ones(longest / 2), num(1, 7)} {
		for _, b := range []api.Dyad{full, ones(longest - 1), ones(longest - 40), ones(api.MaxBits + 33), ones(api.MaxBits + 32), ones(api.MaxBits + 31), form(new(big.Int).Add(power(longest-1), big.NewInt(1)), 0)} {
			for _, bits := range []int{1, 2, 3, 31, 32, 33, api.MaxBits} {
				checkQuo(t, a, b, bits)
			}
		}
	}
}

// checkProductsQuo divides products of b, and what lies next to them, by b.
func checkProductsQuo(t *testing.T, d *dice, b api.Dyad) {
	t.Helper()
	q := d.number(1+d.below(60), 0)
	n := new(big.Int).Mul(units(q, q.Exp), units(b, b.Exp))
	for _, more := range []int64{-1, 0, 1} {
		a := form(new(big.Int).Add(n, big.NewInt(more)), -3)
		if !dyad.May(a) {
			continue
		}
		for _, bits := range []int{1, 32, max(1, toBig(q.Mag).BitLen()), 1 + d.below(2000), api.MaxBits} {
			checkQuo(t, a, b, bits)
		}
	}
}

func TestP2_7_QuoNamed(t *testing.T) {
	for _, c := range []struct {
		a, b api.Dyad
		bits int
		want api.Dyad
		lost bool
		e    api.Errno
	}{
		{num(1, 0), num(3, 0), 4, num(5, -4), true, api.OK},
		{num(-1, 0), num(3, 0), 4, num(-5, -4), true, api.OK},
		{num(-6, 0), num(-3, 0), 1, num(2, 0), false, api.OK},
		{api.Dyad{}, num(-3, 0), 4, api.Dyad{}, false, api.OK},
		{api.Dyad{}, api.Dyad{}, 4, api.Dyad{}, false, api.ErrZero},
		{num(1, far), api.Dyad{}, 4, api.Dyad{}, false, api.ErrZero},
		{num(1, far), num(1, -1), 4, api.Dyad{}, false, api.ErrRange},
		{num(1, far), num(1, -far), 4, api.Dyad{}, false, api.ErrRange},
		{num(1, -far), num(1, 1), 4, api.Dyad{}, false, api.ErrRange},
		{num(1, -far), num(1, far), 4, api.Dyad{}, false, api.ErrRange},
		{num(1, far), num(1, far), 4, num(1, 0), false, api.OK},
		{num(9, -far), num(3, 0), 4, num(3, -far), false, api.OK},
		{num(1, -far), num(3, 0), 1, api.Dyad{}, false, api.ErrRange},
		{num(5, -far), num(3, 0), 1, num(1, -far), true, api.OK},
		{num(5, -far), num(3, 0), 2, api.Dyad{}, false, api.ErrRange},
		{num(17, far-2), num(3, 0), 1, num(1, far), true, api.OK},
		{num(25, far-2), num(3, 0), 1, api.Dyad{}, false, api.ErrRange},
		{num(25, far-3), num(3, 0), 1, num(1, far), true, api.OK},
	} {
		got, lost, e := dyad.Quo(c.a, c.b, c.bits)
		tellCut(t, "Quo of "+show(c.a)+" by "+show(c.b), got, lost, e, c.want, c.lost, c.e)
	}
}

func TestP2_7_Root(t *testing.T) {
	d := dice(30)
	for range 3000 {
		x, bits := d.number(7, 100), 1+d.below(150)
		checkRoot(t, x, bits)
		if p, e := dyad.Mul(x, x); e == api.OK {
			checkRoot(t, p, bits)
			if p, e = dyad.Add(p, num(int64(d.below(3))-1, p.Exp-d.below(9))); e == api.OK {
				checkRoot(t, p, bits)
			}
		}
	}
	for _, x := range edges() {
		for _, bits := range []int{1, 2, 3, 32, 64, 101, api.MaxBits - 1, api.MaxBits} {
			checkRoot(t, x, bits)
		}
	}
}

func TestP2_7_RootNamed(t *testing.T) {
	for _, c := range []struct {
		d    api.Dyad
		bits int
		want api.Dyad
		lost bool
		e    api.Errno
	}{
		{num(2, 0), 3, num(5, -2), true, api.OK},
		{num(9, 0), 4, num(3, 0), false, api.OK},
		{num(9, 0), 1, num(2, 0), true, api.OK},
		{num(1, far), 1, num(1, far/2), false, api.OK},
		{num(1, -far), 1, num(1, -far/2), false, api.OK},
		{num(1, 1-far), 2, num(1, -far/2), true, api.OK},
		{num(9, 1-far), 1, num(1, 2-far/2), true, api.OK},
		{num(-9, 0), 4, api.Dyad{}, false, api.ErrLess},
		{num(-1, -far), 1, api.Dyad{}, false, api.ErrLess},
		{num(-9, 0), api.MaxBits + 1, api.Dyad{}, false, api.ErrLong},
		{api.Dyad{Mag: []uint32{}}, 1, api.Dyad{}, false, api.OK},
	} {
		got, lost, e := dyad.Root(c.d, c.bits)
		tellCut(t, "Root of "+show(c.d), got, lost, e, c.want, c.lost, c.e)
	}
}
