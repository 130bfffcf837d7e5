package dyad_test

import (
	"math/big"
	"slices"
	"testing"

	"cutplane/api"
	"cutplane/dyad"
)

func TestP2_1_May(t *testing.T) {
	for _, d := range edges() {
		if !dyad.May(d) {
			t.Error("May of", show(d))
		}
	}
	for _, d := range wrong() {
		if dyad.May(d) {
			t.Error("May of", show(d), d.Neg, d.Exp)
		}
	}
}

func TestP2_1_Make(t *testing.T) {
	d := dice(21)
	for range 3000 {
		n := d.number(6, 200)
		low, exp := d.below(100), n.Exp
		mag := digits(units(api.Dyad{Mag: n.Mag, Exp: low}, 0))
		if len(n.Mag) == 0 {
			mag, exp = nil, d.below(100)
		}
		got, e := dyad.Make(n.Neg, mag, exp-low)
		tell(t, "Make", got, e, n, api.OK)
	}
}

func TestP2_1_MakeEdges(t *testing.T) {
	high := digits(power(longest - 1))
	for _, c := range []struct {
		mag []uint32
		exp int
		e   api.Errno
	}{
		{[]uint32{1}, far, api.OK},
		{[]uint32{1}, far + 1, api.ErrRange},
		{[]uint32{1}, -far, api.OK},
		{[]uint32{1}, -far - 1, api.ErrRange},
		{[]uint32{2}, far - 1, api.OK},
		{[]uint32{2}, far, api.ErrRange},
		{[]uint32{2}, -far - 1, api.OK},
		{[]uint32{2}, -far - 2, api.ErrRange},
		{high, far - longest + 1, api.OK},
		{high, far - longest + 2, api.ErrRange},
		{high, -far - longest + 1, api.OK},
		{high, -far - longest, api.ErrRange},
		{high, -far - longest - 1, api.ErrRange},
		{[]uint32{2}, greatInt, api.ErrRange},
		{[]uint32{1}, greatInt, api.ErrRange},
		{high, greatInt, api.ErrRange},
		{high, greatInt - longest, api.ErrRange},
		{[]uint32{1}, leastInt, api.ErrRange},
		{high, leastInt, api.ErrRange},
		{digits(minusOne(longest)), far, api.OK},
		{nil, greatInt, api.OK},
		{[]uint32{}, leastInt, api.OK},
	} {
		for _, neg := range []bool{false, true} {
			n := toBig(c.mag)
			if neg {
				n.Neg(n)
			}
			got, e := dyad.Make(neg, c.mag, c.exp)
			tell(t, "Make", got, e, form(n, c.exp), c.e)
		}
	}
	for _, mag := range [][]uint32{{0}, {1, 0}, {0, 0, 0}, slices.Repeat([]uint32{1}, api.MaxDigits+1)} {
		for _, exp := range []int{0, far + 1, leastInt, greatInt} {
			got, e := dyad.Make(true, mag, exp)
			tell(t, "Make of what may not be", got, e, api.Dyad{}, api.ErrArg)
		}
	}
}

func TestP2_2_Int(t *testing.T) {
	whole := []int64{0, 1, -1, 2, -2, 12, 1<<31 - 1, 1 << 32, -1 << 32, 1 << 62, greatInt, -greatInt, leastInt, leastInt + 1, 3 << 40}
	d := dice(22)
	for range 500 {
		whole = append(whole, int64(d.next())>>d.below(64))
	}
	for _, n := range whole {
		got := dyad.Int(n)
		tell(t, "Int", got, api.OK, num(n, 0), api.OK)
		if back, ok := dyad.Int64(got); back != n || !ok {
			t.Fatal("Int64 of", n, "is", back, ok)
		}
	}
}

func TestP2_2_Int64Not(t *testing.T) {
	none := append(wrong(), num(1, 63), num(1, 64), num(-1, 64), form(new(big.Int).Neg(new(big.Int).Add(power(63), big.NewInt(1))), 0),
		num(1, -1), num(-1, -1), num(3, -1), num(1, far), num(-1, far), num(1, -far), num(3, 62), num(-3, 62), ones(64), ones(65), ones(longest), num(1, 127))
	for _, d := range none {
		if n, ok := dyad.Int64(d); n != 0 || ok {
			t.Error("Int64 of", show(d), "is", n, ok)
		}
	}
	if n, ok := dyad.Int64(num(-1, 63)); n != leastInt || !ok {
		t.Error("Int64 of -2^63 is", n, ok)
	}
	if n, ok := dyad.Int64(ones(63)); n != greatInt || !ok {
		t.Error("Int64 of 2^63 - 1 is", n, ok)
	}
	if n, ok := dyad.Int64(api.Dyad{Mag: []uint32{}}); n != 0 || !ok {
		t.Error("Int64 of nought is", n, ok)
	}
}

func TestP2_3_SignTop(t *testing.T) {
	d := dice(23)
	list := edges()
	for range 500 {
		list = append(list, d.number(5, 300))
	}
	for _, x := range list {
		n := toBig(x.Mag)
		sign, high := n.Sign(), 0
		if sign != 0 {
			high = n.BitLen() + x.Exp
		}
		if x.Neg {
			sign = -sign
		}
		if got := dyad.Sign(x); got != sign {
			t.Error("Sign of", show(x), "is", got)
		}
		if got := dyad.Top(x); got != high {
			t.Error("Top of", show(x), "is", got)
		}
	}
	for _, x := range wrong() {
		if s, h := dyad.Sign(x), dyad.Top(x); s != 0 || h != 0 {
			t.Error("Sign and Top of", show(x), "are", s, h)
		}
	}
}

func TestP2_3_NegAbs(t *testing.T) {
	for _, x := range edges() {
		n := toBig(x.Mag)
		got, e := dyad.Abs(x)
		tell(t, "Abs", got, e, form(n, x.Exp), api.OK)
		if !x.Neg {
			n.Neg(n)
		}
		got, e = dyad.Neg(x)
		tell(t, "Neg", got, e, form(n, x.Exp), api.OK)
	}
	for _, x := range wrong() {
		got, e := dyad.Neg(x)
		tell(t, "Neg of what may not be", got, e, api.Dyad{}, api.ErrArg)
		got, e = dyad.Abs(x)
		tell(t, "Abs of what may not be", got, e, api.Dyad{}, api.ErrArg)
	}
}
