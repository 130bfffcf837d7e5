package dyad_test

import (
	"math/big"
	"testing"

	"cutplane/api"
	"cutplane/dyad"
)

// bounded is the error of an answer that would be d: too long ahead of out of bounds.
func bounded(d api.Dyad) api.Errno {
	switch {
	case len(d.Mag) > api.MaxDigits:
		return api.ErrLong
	case len(d.Mag) > 0 && (d.Exp > far || d.Exp < -far):
		return api.ErrRange
	}
	return api.OK
}

// together is both numbers in units of their lowest bit. Exps that are very far apart are brought nearer: not so near that the sum would not be too long, or that they would stand otherwise to each other.
func together(a, b api.Dyad) (x, y *big.Int, low int) {
	const apart = 3 * longest
	switch {
	case len(a.Mag) == 0:
		return new(big.Int), units(b, b.Exp), b.Exp
	case len(b.Mag) == 0:
		return units(a, a.Exp), new(big.Int), a.Exp
	case a.Exp > b.Exp:
		a.Exp = min(a.Exp, b.Exp+apart)
		return units(a, b.Exp), units(b, b.Exp), b.Exp
	}
	b.Exp = min(b.Exp, a.Exp+apart)
	return units(a, a.Exp), units(b, a.Exp), a.Exp
}

// checkSums holds Cmp, Add and Sub of two numbers against the library.
func checkSums(t *testing.T, a, b api.Dyad) {
	t.Helper()
	x, y, low := together(a, b)
	if c, e := dyad.Cmp(a, b); c != x.Cmp(y) || e != api.OK {
		t.Fatalf("Cmp of %s and %s is %d, %d", show(a), show(b), c, e)
	}
	want := form(new(big.Int).Add(x, y), low)
	got, e := dyad.Add(a, b)
	tell(t, "Add of "+show(a)+" and "+show(b), got, e, want, bounded(want))
	want = form(new(big.Int).Sub(x, y), low)
	got, e = dyad.Sub(a, b)
	tell(t, "Sub of "+show(a)+" and "+show(b), got, e, want, bounded(want))
}

func checkProduct(t *testing.T, a, b api.Dyad) {
	t.Helper()
	want := form(new(big.Int).Mul(units(a, a.Exp), units(b, b.Exp)), a.Exp+b.Exp)
	got, e := dyad.Mul(a, b)
	tell(t, "Mul of "+show(a)+" and "+show(b), got, e, want, bounded(want))
}

func TestP2_4_Thrown(t *testing.T) {
	d := dice(24)
	for range 4000 {
		a, b := d.number(5, 80), d.number(5, 80)
		checkSums(t, a, b)
		checkProduct(t, a, b)
		b.Exp = a.Exp
		if dyad.May(b) {
			checkSums(t, a, b)
		}
	}
}

func TestP2_4_Edges(t *testing.T) {
	for _, a := range edges() {
		for _, b := range edges() {
			checkSums(t, a, b)
			checkProduct(t, a, b)
		}
	}
}

// TestP2_4_Long: numbers about the bound of MaxDigits digits, of which what is reckoned on the way may be longer than the answer.
func TestP2_4_Long(t *testing.T) {
	var list []api.Dyad
	for _, n := range []*big.Int{
		big.NewInt(1), big.NewInt(3), big.NewInt(7), minusOne(longest), minusOne(longest - 1), minusOne(longest - 2), minusOne(longest / 2), minusOne(longest/2 + 1),
		new(big.Int).Add(power(longest-1), big.NewInt(1)), new(big.Int).Sub(minusOne(longest), big.NewInt(2)),
		new(big.Int).Sub(minusOne(longest), power(longest-1)),
	} {
		for _, exp := range []int{-2, -1, 0, 1, 2, longest - 2, longest - 1, longest, longest + 1, longest + 2} {
			list = append(list, form(n, exp), form(new(big.Int).Neg(n), exp))
		}
	}
	d := dice(25)
	for i, a := range list {
		for j, b := range list {
			// Some pairs only, for time's sake, but more of those with a short number.
			if d.below(60) == 0 || len(a.Mag) == 1 && d.below(4) == 0 {
				checkSums(t, a, b)
			}
			if (i+j)%97 == 0 {
				checkProduct(t, a, b)
			}
		}
	}
}

// TestP2_4_Named: the bounds, one by one.
func TestP2_4_Named(t *testing.T) {
	full := ones(longest)
	for _, c := range []struct {
		name string
		call func(a, b api.Dyad) (api.Dyad, api.Errno)
		a, b api.Dyad
		want api.Dyad
		e    api.Errno
	}{
		{"2^131072 + 1", dyad.Add, num(1, longest), num(1, 0), api.Dyad{}, api.ErrLong},
		{"2^131072 - 1", dyad.Sub, num(1, longest), num(1, 0), full, api.OK},
		{"1 - 2^131072", dyad.Sub, num(1, 0), num(1, longest), form(new(big.Int).Neg(minusOne(longest)), 0), api.OK},
		{"the longest and itself", dyad.Add, full, full, form(minusOne(longest), 1), api.OK},
		{"the longest and 1", dyad.Add, full, num(1, 0), num(1, longest), api.OK},
		{"the longest and 2", dyad.Add, full, num(1, 1), api.Dyad{}, api.ErrLong},
		{"the longest and 1/2", dyad.Add, full, num(1, -1), api.Dyad{}, api.ErrLong},
		{"2^MaxExp twice", dyad.Add, num(1, far), num(1, far), api.Dyad{}, api.ErrRange},
		{"2^MaxExp less itself", dyad.Sub, num(1, far), num(1, far), api.Dyad{}, api.OK},
		{"3 2^MaxExp less 2^MaxExp", dyad.Sub, num(3, far), num(1, far), api.Dyad{}, api.ErrRange},
		{"2^MaxExp and 2^-MaxExp", dyad.Add, num(1, far), num(1, -far), api.Dyad{}, api.ErrLong},
		{"2^-MaxExp twice", dyad.Add, num(1, -far), num(1, -far), num(1, 1-far), api.OK},
		{"2^MaxExp times 2", dyad.Mul, num(1, far), num(1, 1), api.Dyad{}, api.ErrRange},
		{"2^-MaxExp times 1/2", dyad.Mul, num(1, -far), num(1, -1), api.Dyad{}, api.ErrRange},
		{"2^MaxExp times nought", dyad.Mul, num(1, far), api.Dyad{}, api.Dyad{}, api.OK},
		{"-1 times nought", dyad.Mul, num(-1, 0), api.Dyad{}, api.Dyad{}, api.OK},
		{"the longest times 3", dyad.Mul, full, num(3, 0), api.Dyad{}, api.ErrLong},
		{"both errors", dyad.Mul, form(minusOne(longest), far), num(3, far), api.Dyad{}, api.ErrLong},
		{"both errors below", dyad.Mul, form(minusOne(longest), -far), num(-3, -1), api.Dyad{}, api.ErrLong},
		{"nought less 5", dyad.Sub, api.Dyad{}, num(5, 0), num(-5, 0), api.OK},
		{"nought less nought", dyad.Sub, api.Dyad{}, api.Dyad{}, api.Dyad{}, api.OK},
	} {
		got, e := c.call(c.a, c.b)
		tell(t, c.name, got, e, c.want, c.e)
	}
}

func TestP2_4_Wrong(t *testing.T) {
	for _, w := range wrong() {
		for _, x := range append(edges(), w) {
			for _, p := range [][2]api.Dyad{{w, x}, {x, w}} {
				if c, e := dyad.Cmp(p[0], p[1]); c != 0 || e != api.ErrArg {
					t.Error("Cmp of what may not be", c, e)
				}
				for _, call := range []func(a, b api.Dyad) (api.Dyad, api.Errno){dyad.Add, dyad.Sub, dyad.Mul} {
					got, e := call(p[0], p[1])
					tell(t, "of what may not be", got, e, api.Dyad{}, api.ErrArg)
				}
			}
		}
	}
}

func TestP2_5_Shift(t *testing.T) {
	counts := []int{0, 1, -1, 2, 31, -33, far, -far, far + 1, -far - 1, 2 * far, -2 * far, 2*far + 1, -2*far - 1, 2*far + 7, greatInt, greatInt - 1, greatInt - far, leastInt, leastInt + 1, leastInt + far}
	for _, d := range edges() {
		for _, n := range counts {
			want := api.Dyad{}
			e := api.OK
			if len(d.Mag) > 0 {
				exp := new(big.Int).Add(big.NewInt(int64(d.Exp)), big.NewInt(int64(n)))
				if exp.CmpAbs(big.NewInt(far)) > 0 {
					e = api.ErrRange
				}
				want = api.Dyad{Neg: d.Neg, Mag: d.Mag, Exp: int(exp.Int64())}
			}
			got, f := dyad.Shift(d, n)
			tell(t, "Shift of "+show(d), got, f, want, e)
		}
	}
	for _, w := range wrong() {
		for _, n := range counts {
			got, e := dyad.Shift(w, n)
			tell(t, "Shift of what may not be", got, e, api.Dyad{}, api.ErrArg)
		}
	}
}

func TestP2_5_Floor(t *testing.T) {
	d := dice(26)
	list := edges()
	for range 2000 {
		list = append(list, d.number(5, 160))
	}
	list = append(list, form(minusOne(longest), -1), form(new(big.Int).Neg(minusOne(longest)), -1), form(new(big.Int).Neg(minusOne(longest)), 1-longest))
	for _, x := range list {
		want := x
		if x.Exp < 0 {
			// Rsh goes downwards, below nought as well.
			n := units(x, x.Exp)
			want = form(n.Rsh(n, uint(-x.Exp)), 0)
		}
		got, e := dyad.Floor(x)
		tell(t, "Floor of "+show(x), got, e, want, api.OK)
	}
	for _, w := range wrong() {
		got, e := dyad.Floor(w)
		tell(t, "Floor of what may not be", got, e, api.Dyad{}, api.ErrArg)
	}
}
