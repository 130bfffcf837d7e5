package nat_test

import (
	"math"
	"math/big"
	"slices"
	"strings"
	"testing"

	"cutplane/api"
	"cutplane/nat"
)

func TestP1_1_May(t *testing.T) {
	for _, a := range append(edges(), all(api.MaxDigits, 1), greatest(), one(api.MaxDigits)) {
		if !nat.May(a) {
			t.Error("may be", len(a), head(a))
		}
	}
	for _, a := range wrong() {
		if nat.May(a) {
			t.Error("may not be", len(a), head(a))
		}
	}
}

func TestP1_1_OfNum(t *testing.T) {
	for _, n := range []uint64{0, 1, 2, top, 1 << 32, 1<<32 + 1, 1 << 63, math.MaxUint64} {
		a := nat.Of(n)
		if !slices.Equal(a, fromBig(new(big.Int).SetUint64(n))) {
			t.Error("Of", n, a)
		}
		if m, ok := nat.Num(a); m != n || !ok {
			t.Error("Num", a, m, ok)
		}
	}
	for _, a := range append(wrong(), one(3), all(3, top), greatest()) {
		if n, ok := nat.Num(a); n != 0 || ok {
			t.Error("Num", len(a), head(a), n, ok)
		}
	}
}

func TestP1_2_Cmp(t *testing.T) {
	d := dice(12)
	numbers := append(edges(), one(api.MaxDigits), greatest())
	for range 60 {
		numbers = append(numbers, d.number(d.below(6)))
	}
	for _, a := range numbers {
		for _, b := range numbers {
			if c, e := nat.Cmp(a, b); c != toBig(a).Cmp(toBig(b)) || e != api.OK {
				t.Fatal("Cmp", head(a), head(b), c, e)
			}
		}
	}
	for _, a := range wrong() {
		for _, b := range append(wrong(), nil, []uint32{1}) {
			x, e := nat.Cmp(a, b)
			y, f := nat.Cmp(b, a)
			if x != 0 || y != 0 || e != api.ErrArg || f != api.ErrArg {
				t.Error("Cmp of what may not be", x, e, y, f)
			}
		}
	}
}

// twos is pairs of numbers: all edges, and thrown ones of many sizes.
func twos() [][2][]uint32 {
	var out [][2][]uint32
	for _, a := range edges() {
		for _, b := range edges() {
			out = append(out, [2][]uint32{a, b})
		}
	}
	d := dice(7)
	for range 3000 {
		out = append(out, [2][]uint32{d.number(d.below(9)), d.number(d.below(9))})
	}
	for range 60 {
		out = append(out, [2][]uint32{d.number(d.below(300)), d.number(d.below(300))})
	}
	return out
}

func TestP1_2_AddSubMul(t *testing.T) {
	for _, p := range twos() {
		a, b := p[0], p[1]
		x, y := toBig(a), toBig(b)
		s, e := nat.Add(a, b)
		tell(t, "Add", s, e, fromBig(new(big.Int).Add(x, y)), api.OK)
		m, e := nat.Mul(a, b)
		tell(t, "Mul", m, e, fromBig(new(big.Int).Mul(x, y)), api.OK)
		less, e := nat.Sub(a, b)
		if x.Cmp(y) < 0 {
			tell(t, "Sub", less, e, nil, api.ErrLess)
		} else {
			tell(t, "Sub", less, e, fromBig(new(big.Int).Sub(x, y)), api.OK)
		}
	}
}

func TestP1_2_Long(t *testing.T) {
	great, g := greatest(), toBig(greatest())
	s, e := nat.Add(great, nil)
	tell(t, "Add nought", s, e, great, api.OK)
	s, e = nat.Add(great, nat.Of(1))
	tell(t, "Add 1", s, e, nil, api.ErrLong)
	s, e = nat.Add(great, great)
	tell(t, "Add itself", s, e, nil, api.ErrLong)
	below := new(big.Int).Sub(g, big.NewInt(1))
	s, e = nat.Add(fromBig(below), nat.Of(1))
	tell(t, "Add up to the greatest", s, e, great, api.OK)
	s, e = nat.Sub(great, great)
	tell(t, "Sub itself", s, e, nil, api.OK)
	s, e = nat.Sub(great, nat.Of(1))
	tell(t, "Sub 1", s, e, fromBig(below), api.OK)
	s, e = nat.Sub(one(api.MaxDigits), nat.Of(1))
	tell(t, "Sub with a long borrow", s, e, all(api.MaxDigits-1, top), api.OK)

	for _, c := range []struct {
		a, b []uint32
		e    api.Errno
	}{
		{great, nil, api.OK},
		{great, nat.Of(1), api.OK},
		{great, nat.Of(2), api.ErrLong},
		{great, great, api.ErrLong},
		{one(api.MaxDigits), nat.Of(top), api.OK},
		{one(api.MaxDigits), one(2), api.ErrLong},
		{one(2048), one(2049), api.OK},
		{one(2049), one(2049), api.ErrLong},
		{all(2048, top), all(2048, top), api.OK},
		{all(2048, top), all(2049, top), api.ErrLong},
	} {
		want := fromBig(new(big.Int).Mul(toBig(c.a), toBig(c.b)))
		if c.e != api.OK {
			want = nil
		}
		p, e := nat.Mul(c.a, c.b)
		tell(t, "Mul", p, e, want, c.e)
		p, e = nat.Mul(c.b, c.a)
		tell(t, "Mul turned", p, e, want, c.e)
	}
}

func TestP1_2_Wrong(t *testing.T) {
	good := [][]uint32{nil, {1}, greatest()}
	for _, w := range wrong() {
		for _, g := range append(good, wrong()...) {
			for _, f := range []func(a, b []uint32) ([]uint32, api.Errno){nat.Add, nat.Sub, nat.Mul} {
				x, e := f(w, g)
				tell(t, "first wrong", x, e, nil, api.ErrArg)
				x, e = f(g, w)
				tell(t, "second wrong", x, e, nil, api.ErrArg)
			}
		}
	}
}

func checkQuoRem(t *testing.T, a, b []uint32) {
	t.Helper()
	q, r, e := nat.QuoRem(a, b)
	if len(b) == 0 {
		tell(t, "quotient by nought", q, e, nil, api.ErrZero)
		tell(t, "rest by nought", r, e, nil, api.ErrZero)
		return
	}
	x, y := new(big.Int).QuoRem(toBig(a), toBig(b), new(big.Int))
	tell(t, "quotient", q, e, fromBig(x), api.OK)
	tell(t, "rest", r, e, fromBig(y), api.OK)
}

func TestP1_3_QuoRem(t *testing.T) {
	for _, p := range twos() {
		checkQuoRem(t, p[0], p[1])
		checkQuoRem(t, p[1], p[0])
	}
	// Products and their neighbours: quotients that are whole, or nearly.
	d := dice(31)
	for range 500 {
		x, y := d.number(1+d.below(5)), d.number(1+d.below(5))
		p := new(big.Int).Mul(toBig(x), toBig(y))
		for _, more := range []int64{-1, 0, 1} {
			checkQuoRem(t, fromBig(new(big.Int).Add(p, big.NewInt(more))), x)
		}
	}
}

func TestP1_3_GuessesThatFail(t *testing.T) {
	checkQuoRem(t, []uint32{0, 0, 1 << 31, 1<<31 - 1}, []uint32{1, 0, 1 << 31})
	checkQuoRem(t, []uint32{3, 0, 1 << 31}, []uint32{1, 0, 1 << 29})
	checkQuoRem(t, []uint32{0, top - 1, 1 << 31}, []uint32{top, 1 << 31})
	checkQuoRem(t, []uint32{0, 0, top, 1 << 31}, []uint32{top, top, 1 << 31})
	checkQuoRem(t, []uint32{top, 0, top - 1, top}, []uint32{top, top, top})
	checkQuoRem(t, all(9, top), append(all(3, 0), top))
}

func TestP1_3_Long(t *testing.T) {
	great := greatest()
	for _, b := range [][]uint32{nil, {1}, {2}, {top}, one(2), one(2048), all(2048, top), all(2047, top), one(api.MaxDigits), great} {
		checkQuoRem(t, great, b)
		checkQuoRem(t, one(api.MaxDigits), b)
		checkQuoRem(t, b, great)
	}
	for _, w := range wrong() {
		for _, g := range append(wrong(), nil, []uint32{1}) {
			q, r, e := nat.QuoRem(w, g)
			tell(t, "wrong dividend", append(q, r...), e, nil, api.ErrArg)
			q, r, e = nat.QuoRem(g, w)
			tell(t, "wrong divisor", append(q, r...), e, nil, api.ErrArg)
		}
	}
}

func checkShift(t *testing.T, a []uint32, n int) {
	t.Helper()
	s, lost, e := nat.Shift(a, n)
	x := toBig(a)
	if n >= 0 {
		if len(a) > 0 && n+x.BitLen() > 32*api.MaxDigits {
			tell(t, "Shift too far up", s, e, nil, api.ErrLong)
		} else {
			tell(t, "Shift up", s, e, fromBig(new(big.Int).Lsh(x, uint(n))), api.OK)
		}
		if lost {
			t.Fatal("lost by shifting up", n)
		}
		return
	}
	want := new(big.Int).Rsh(x, uint(-n))
	tell(t, "Shift down", s, e, fromBig(want), api.OK)
	if lost != (new(big.Int).Lsh(want, uint(-n)).Cmp(x) != 0) {
		t.Fatal("Shift down", head(a), n, "lost", lost)
	}
}

func TestP1_4_Shift(t *testing.T) {
	d := dice(4)
	for _, a := range edges() {
		for n := -140; n <= 140; n++ {
			checkShift(t, a, n)
		}
	}
	for range 2000 {
		a := d.number(d.below(8))
		checkShift(t, a, d.below(600)-300)
		back, lost, e := nat.Shift(a, d.below(300))
		if lost || e != api.OK {
			t.Fatal("Shift", lost, e)
		}
		checkShift(t, back, -d.below(600))
	}
}

func TestP1_4_Bounds(t *testing.T) {
	room := 32 * api.MaxDigits
	for _, n := range []int{room - 1, room, room + 1, room - 2, room - 31, room - 32, room - 33} {
		for _, a := range [][]uint32{nil, {1}, {2}, {3}, {top}, one(2), greatest()} {
			checkShift(t, a, n)
			checkShift(t, a, -n)
		}
	}
	great := greatest()
	checkShift(t, great, 0)
	checkShift(t, great, 1)
	checkShift(t, great, -1)
	checkShift(t, one(api.MaxDigits), 31)
	checkShift(t, one(api.MaxDigits), 32)
}

func TestP1_4_AnyInt(t *testing.T) {
	for _, n := range []int{math.MaxInt, math.MaxInt - 1, 1 << 62, 1 << 32, 1 << 31} {
		for _, a := range [][]uint32{{1}, {top, top}, greatest()} {
			s, lost, e := nat.Shift(a, n)
			tell(t, "far up", s, e, nil, api.ErrLong)
			down, gone, e2 := nat.Shift(a, -n)
			tell(t, "far down", down, e2, nil, api.OK)
			least, all1, e3 := nat.Shift(a, math.MinInt)
			tell(t, "farthest down", least, e3, nil, api.OK)
			if lost || !gone || !all1 {
				t.Error("lost", lost, gone, all1)
			}
		}
	}
	for _, n := range []int{math.MinInt, math.MinInt + 1, -1, 0, 1, 1 << 62, math.MaxInt} {
		s, lost, e := nat.Shift(nil, n)
		tell(t, "nought", s, e, nil, api.OK)
		if lost {
			t.Error("lost of nought", n)
		}
		for _, w := range wrong() {
			s, lost, e := nat.Shift(w, n)
			tell(t, "wrong", s, e, nil, api.ErrArg)
			if lost {
				t.Error("lost of what may not be", n)
			}
		}
	}
}

func TestP1_5_LenLow(t *testing.T) {
	numbers := append(edges(), greatest(), one(api.MaxDigits))
	d := dice(5)
	for range 500 {
		a, _, _ := nat.Shift(d.number(d.below(6)), d.below(200))
		numbers = append(numbers, a)
	}
	for _, a := range numbers {
		x := toBig(a)
		if nat.Len(a) != x.BitLen() {
			t.Error("Len", head(a), nat.Len(a))
		}
		if nat.Low(a) != int(x.TrailingZeroBits()) {
			t.Error("Low", head(a), nat.Low(a))
		}
	}
	for _, a := range append(wrong(), []uint32{8, 0}, append(all(api.MaxDigits, 0), 1)) {
		if nat.Len(a) != 0 || nat.Low(a) != 0 {
			t.Error("of what may not be", head(a), nat.Len(a), nat.Low(a))
		}
	}
}

func checkRoot(t *testing.T, x *big.Int) {
	t.Helper()
	r, is, e := nat.Root(fromBig(x))
	want := new(big.Int).Sqrt(x)
	tell(t, "Root", r, e, fromBig(want), api.OK)
	if is != (new(big.Int).Mul(want, want).Cmp(x) == 0) {
		t.Fatal("Root", x, "is", is)
	}
}

func TestP1_6_Root(t *testing.T) {
	for n := range int64(5000) {
		checkRoot(t, big.NewInt(n))
	}
	d := dice(6)
	for range 1000 {
		checkRoot(t, toBig(d.number(d.below(12))))
	}
	for range 500 {
		x := toBig(d.number(1 + d.below(9)))
		x.Mul(x, x)
		for _, more := range []int64{-1, 0, 1} {
			checkRoot(t, new(big.Int).Add(x, big.NewInt(more)))
		}
	}
}

func TestP1_6_Long(t *testing.T) {
	great := toBig(greatest())
	checkRoot(t, great)
	square := toBig(all(2048, top))
	square.Mul(square, square)
	checkRoot(t, square)
	checkRoot(t, new(big.Int).Sub(square, big.NewInt(1)))
	checkRoot(t, toBig(one(api.MaxDigits)))
	checkRoot(t, toBig(one(api.MaxDigits-1)))
	for _, w := range wrong() {
		r, is, e := nat.Root(w)
		tell(t, "Root", r, e, nil, api.ErrArg)
		if is {
			t.Error("a root of what may not be")
		}
	}
}

func TestP1_7_Power(t *testing.T) {
	for _, base := range []uint32{0, 1, 2, 3, 5, 7, 10, 65535, 65536, 1 << 31, top} {
		for n := range 70 {
			p, e := nat.Power(base, n)
			tell(t, "Power", p, e, fromBig(new(big.Int).Exp(big.NewInt(int64(base)), big.NewInt(int64(n)), nil)), api.OK)
		}
		for _, n := range []int{-1, -2, math.MinInt} {
			p, e := nat.Power(base, n)
			tell(t, "Power below nought", p, e, nil, api.ErrArg)
		}
		if base < 2 {
			continue
		}
		for _, n := range []int{131072, 131073, 1 << 40, math.MaxInt} {
			p, e := nat.Power(base, n)
			tell(t, "Power too far", p, e, nil, api.ErrLong)
		}
	}
	for _, n := range []int{1, 131072, 1 << 62, math.MaxInt} {
		p, e := nat.Power(0, n)
		tell(t, "0 to the n", p, e, nil, api.OK)
		p, e = nat.Power(1, n)
		tell(t, "1 to the n", p, e, []uint32{1}, api.OK)
	}
}

func TestP1_7_Bounds(t *testing.T) {
	for _, c := range []struct {
		base uint32
		last int // the greatest exponent that goes
	}{{2, 131071}, {4, 65535}, {65536, 8191}, {1 << 31, 4228}, {3, 82697}, {10, 39456}, {top, 4096}} {
		want := new(big.Int).Exp(big.NewInt(int64(c.base)), big.NewInt(int64(c.last)), nil)
		p, e := nat.Power(c.base, c.last)
		tell(t, "Power", p, e, fromBig(want), api.OK)
		p, e = nat.Power(c.base, c.last+1)
		tell(t, "Power", p, e, nil, api.ErrLong)
	}
}

func TestP1_8_Text(t *testing.T) {
	numbers := append(edges(), greatest(), one(api.MaxDigits))
	d := dice(8)
	for range 500 {
		numbers = append(numbers, d.number(d.below(20)))
	}
	for n := range 60 {
		p, _ := nat.Power(10, n)
		numbers = append(numbers, p)
	}
	for _, a := range numbers {
		s, e := nat.Text(a)
		if s != toBig(a).String() || e != api.OK {
			t.Fatal("Text", head(a), e)
		}
		b, e := nat.Parse(s)
		tell(t, "Parse of Text", b, e, a, api.OK)
	}
	for _, w := range wrong() {
		if s, e := nat.Text(w); s != "" || e != api.ErrArg {
			t.Error("Text of what may not be", len(s), e)
		}
	}
}

func TestP1_8_Parse(t *testing.T) {
	for n := 1; n < 60; n++ {
		for _, s := range []string{strings.Repeat("9", n), "1" + strings.Repeat("0", n-1), strings.Repeat("1234567890", n)[:n]} {
			want, _ := new(big.Int).SetString(s, 10)
			a, e := nat.Parse(s)
			tell(t, s, a, e, fromBig(want), api.OK)
		}
	}
	a, e := nat.Parse("0")
	tell(t, "0", a, e, nil, api.OK)
	long := strings.Repeat("1", 50000)
	for _, s := range []string{"", "00", "01", "007", "-1", "+1", " 1", "1 ", "1_0", "0x1", "1.", "1e3", "a", "/", ":", "1/", "1:", "\x00", "1\x00", "\xb1", "١", long + "x", "0" + long, long + "\n" + long} {
		a, e := nat.Parse(s)
		tell(t, "no number", a, e, nil, api.ErrText)
	}
}

func TestP1_8_Long(t *testing.T) {
	great := toBig(greatest())
	a, e := nat.Parse(great.String())
	tell(t, "the greatest", a, e, greatest(), api.OK)
	a, e = nat.Parse(new(big.Int).Add(great, big.NewInt(1)).String())
	tell(t, "one more", a, e, nil, api.ErrLong)
	for _, n := range []int{len(great.String()), len(great.String()) + 1, 50000, 1 << 22} {
		a, e = nat.Parse(strings.Repeat("9", n))
		tell(t, "nines", a, e, nil, api.ErrLong)
	}
	least := "1" + strings.Repeat("0", len(great.String())-1)
	want, _ := new(big.Int).SetString(least, 10)
	a, e = nat.Parse(least)
	tell(t, "as many digits as the greatest", a, e, fromBig(want), api.OK)
}
