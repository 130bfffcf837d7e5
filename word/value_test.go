package word_test

import (
	"math"
	"math/big"
	"slices"
	"testing"

	"cutplane/api"
	"cutplane/dyad"
	"cutplane/word"
)

// classOf asks the library's float; the least normal number is 2^(L + F).
func classOf(k table, w uint64) api.Class {
	x := math.Abs(k.float(w))
	switch {
	case math.IsNaN(x):
		return api.NaN
	case math.IsInf(x, 0):
		return api.Infinite
	case x >= math.Ldexp(1, k.least+k.frac):
		return api.Normal
	case x > 0:
		return api.Subnormal
	}
	return api.Nought
}

func TestP3_2_Class(t *testing.T) {
	for _, k := range tables() {
		for _, w := range k.words() {
			if c, e := word.Class(k.f, w); c != classOf(k, w) || e != api.OK {
				t.Fatalf("Class of %x in format %d: %d error %d", w, k.f, c, e)
			}
		}
	}
}

func TestP3_2_ClassNamed(t *testing.T) {
	for _, c := range []struct {
		f    api.Format
		w    uint64
		want api.Class
	}{
		{api.F32, 0, api.Nought}, {api.F32, 0x80000000, api.Nought},
		{api.F32, 1, api.Subnormal}, {api.F32, 0x807FFFFF, api.Subnormal},
		{api.F32, 0x00800000, api.Normal}, {api.F32, 0xFF7FFFFF, api.Normal},
		{api.F32, 0x7F800000, api.Infinite}, {api.F32, 0xFF800000, api.Infinite},
		{api.F32, 0x7F800001, api.NaN}, {api.F32, 0xFF800001, api.NaN}, {api.F32, 0x7FC00000, api.NaN}, {api.F32, 0xFFFFFFFF, api.NaN},
		{api.F64, 0, api.Nought}, {api.F64, 1 << 63, api.Nought},
		{api.F64, 0x7FC00000, api.Subnormal}, {api.F64, 0x800FFFFFFFFFFFFF, api.Subnormal},
		{api.F64, 0x0010000000000000, api.Normal}, {api.F64, 0x7FEFFFFFFFFFFFFF, api.Normal},
		{api.F64, 0x7FF0000000000000, api.Infinite}, {api.F64, 0xFFF0000000000000, api.Infinite},
		{api.F64, 0x7FF0000000000001, api.NaN}, {api.F64, 0xFFF0000000000001, api.NaN}, {api.F64, fullWord, api.NaN},
	} {
		if got, e := word.Class(c.f, c.w); got != c.want || e != api.OK {
			t.Errorf("Class of %x in format %d: %d error %d", c.w, c.f, got, e)
		}
	}
}

// unitOf is the exponent of a finite word's unit, by the top of its value.
func unitOf(k table, w uint64) int {
	x := k.float(w)
	if x == 0 {
		return k.least
	}
	_, top := math.Frexp(x)
	return max(top-k.frac-1, k.least)
}

// TestP3_2_Words: Value, Unit and Of of words of all fields.
func TestP3_2_Words(t *testing.T) {
	for _, k := range tables() {
		for _, w := range k.words() {
			value, e := word.Value(k.f, w)
			unit, ue := word.Unit(k.f, w)
			if !finite(k.float(w)) {
				tellDyad(t, "Value", w, value, e, api.Dyad{}, api.ErrNone)
				tellDyad(t, "Unit", w, unit, ue, api.Dyad{}, api.ErrNone)
				continue
			}
			tellDyad(t, "Value", w, value, e, dyadOf(k.float(w)), api.OK)
			tellDyad(t, "Unit", w, unit, ue, num(1, unitOf(k, w)), api.OK)
			want := w
			if w == k.sign {
				want = 0
			}
			back, e := word.Of(k.f, value)
			tellWord(t, "Of Value", w, back, e, want, api.OK)
		}
	}
}

func TestP3_2_UnitNamed(t *testing.T) {
	for _, k := range tables() {
		normal := uint64(1) << k.frac
		for _, c := range []struct {
			w   uint64
			exp int
		}{
			{0, k.least}, {1, k.least}, {normal - 1, k.least}, {normal, k.least}, {2*normal - 1, k.least}, {2 * normal, k.least + 1},
			{k.inf - 1, k.limit - k.frac - 1}, {k.inf - normal, k.limit - k.frac - 1}, {k.inf - normal - 1, k.limit - k.frac - 2},
		} {
			for _, w := range []uint64{c.w, c.w | k.sign} {
				unit, e := word.Unit(k.f, w)
				tellDyad(t, "Unit", w, unit, e, num(1, c.exp), api.OK)
			}
		}
		for _, w := range []uint64{k.inf, k.inf | k.sign, k.none, k.inf + 1, k.full} {
			unit, e := word.Unit(k.f, w)
			tellDyad(t, "Unit", w, unit, e, api.Dyad{}, api.ErrNone)
			value, e := word.Value(k.f, w)
			tellDyad(t, "Value", w, value, e, api.Dyad{}, api.ErrNone)
		}
	}
}

// TestP3_2_OfNamed: values at the ends of a format and one past them, above nought and below it.
func TestP3_2_OfNamed(t *testing.T) {
	for _, k := range tables() {
		p, normal := k.frac+1, uint64(1)<<k.frac
		for _, c := range []struct {
			d api.Dyad
			w uint64
			e api.Errno
		}{
			{num(1, k.least), 1, api.OK},
			{num(3, k.least), 3, api.OK},
			{num(1, k.least-1), 0, api.ErrNone},
			{num(3, k.least-1), 0, api.ErrNone},
			{ones(k.frac, k.least), normal - 1, api.OK},
			{ones(k.frac, k.least-1), 0, api.ErrNone},
			{num(1, k.least+k.frac), normal, api.OK},
			{num(1, k.least+k.frac-1), normal / 2, api.OK},
			{ones(p, k.least), 2*normal - 1, api.OK},
			{ones(p, k.least-1), 0, api.ErrNone},
			{ones(p, k.least+1), 3*normal - 1, api.OK},
			{ones(p+1, k.least), 0, api.ErrNone},
			{ones(p+1, k.least-1), 0, api.ErrNone},
			{num(1, k.limit-1), k.inf - normal, api.OK},
			{num(1, k.limit), 0, api.ErrNone},
			{num(1, k.limit+1), 0, api.ErrNone},
			{ones(p, k.limit-p), k.inf - 1, api.OK},
			{ones(p, k.limit-p+1), 0, api.ErrNone},
			{ones(p+1, k.limit-p-1), 0, api.ErrNone},
			{ones(p, 0), uint64(k.limit-2+p)<<k.frac + normal - 1, api.OK},
			{ones(p+1, 0), 0, api.ErrNone},
			{form(new(big.Int).Add(toBig(ones(p, 0).Mag), big.NewInt(2)), 0), 0, api.ErrNone},
			{num(1, api.MaxExp), 0, api.ErrNone},
			{num(1, -api.MaxExp), 0, api.ErrNone},
			{ones(64, -64), 0, api.ErrNone},
			{ones(64, k.least), 0, api.ErrNone},
			{ones(65, -20), 0, api.ErrNone},
			{ones(32*api.MaxDigits, -32*api.MaxDigits), 0, api.ErrNone},
			{ones(32*api.MaxDigits, api.MaxExp), 0, api.ErrNone},
			{ones(32*api.MaxDigits, -api.MaxExp), 0, api.ErrNone},
		} {
			w, e := word.Of(k.f, c.d)
			tellWord(t, "Of", uint64(c.d.Exp), w, e, c.w, c.e)
			if c.e == api.OK {
				c.w |= k.sign
			}
			w, e = word.Of(k.f, minus(c.d))
			tellWord(t, "Of, below nought,", uint64(c.d.Exp), w, e, c.w, c.e)
		}
		for _, d := range []api.Dyad{{}, {Mag: []uint32{}}} {
			w, e := word.Of(k.f, d)
			tellWord(t, "Of nought", 0, w, e, 0, api.OK)
		}
	}
}

// TestP3_2_Of: thrown numbers, held against the library's float that is nearest to the exact fraction.
func TestP3_2_Of(t *testing.T) {
	d := dice(32)
	for _, k := range tables() {
		for range thrown {
			bits := 1 + d.below(k.frac+4)
			exp := k.least - 4 + d.below(k.limit-k.least+8) - d.below(2)*bits
			n := new(big.Int).SetUint64(d.next() >> (64 - bits))
			if d.below(2) == 0 {
				n.Neg(n)
			}
			checkOf(t, k, n, exp)
		}
	}
}

func checkOf(t *testing.T, k table, n *big.Int, exp int) {
	t.Helper()
	r := new(big.Rat).SetInt(n)
	two := new(big.Rat).SetInt(new(big.Int).Lsh(big.NewInt(1), uint(max(exp, -exp))))
	if exp < 0 {
		two.Inv(two)
	}
	r.Mul(r, two)
	x, _ := r.Float64()
	if k.f == api.F32 {
		y, _ := r.Float32()
		x = float64(y)
	}
	want, wantE := k.bitsOf(x), api.OK
	// What the library says of exactness does not hold for numbers that it rounds to nought.
	if !finite(x) || new(big.Rat).SetFloat64(x).Cmp(r) != 0 {
		want, wantE = 0, api.ErrNone
	}
	w, e := word.Of(k.f, form(n, exp))
	tellWord(t, "Of "+r.String(), want, w, e, want, wantE)
}

// TestP3_2_OfWrong: a number that may not be, ahead of all but the format.
func TestP3_2_OfWrong(t *testing.T) {
	for _, d := range wrongDyads() {
		for _, k := range tables() {
			w, e := word.Of(k.f, d)
			tellWord(t, "Of what may not be", uint64(d.Exp), w, e, 0, api.ErrArg)
		}
		for _, f := range noFormats() {
			w, e := word.Of(f, d)
			tellWord(t, "Of what may not be in no format", uint64(d.Exp), w, e, 0, api.ErrFormat)
		}
	}
	for _, f := range noFormats() {
		for _, d := range []api.Dyad{{}, num(1, 0), num(1, 5000), num(-1, -5000)} {
			w, e := word.Of(f, d)
			tellWord(t, "Of in no format", uint64(d.Exp), w, e, 0, api.ErrFormat)
		}
	}
}

// TestP1_Memory: Of neither changes nor keeps what it is handed, and each Value and Unit is memory of its own.
func TestP1_Memory(t *testing.T) {
	const mark = 0xDEADBEEF
	for _, k := range tables() {
		for _, w := range []uint64{1, 3, k.inf - 1, k.sign | 0x00800001, uint64(k.field/2) << k.frac} {
			for name, call := range map[string]func(api.Format, uint64) (api.Dyad, api.Errno){"Value": word.Value, "Unit": word.Unit} {
				first, _ := call(k.f, w)
				was := slices.Clone(first.Mag)
				second, _ := call(k.f, w)
				for i := range second.Mag[:cap(second.Mag)] {
					second.Mag[:cap(second.Mag)][i] = mark
				}
				if third, _ := call(k.f, w); !slices.Equal(first.Mag, was) || !sameDyad(third, first) {
					t.Error(name, "shares memory")
				}
			}
			d, _ := word.Value(k.f, w)
			room := append(slices.Clone(d.Mag), mark, mark)
			d.Mag = room[:len(room)-2]
			was := slices.Clone(room)
			got, e := word.Of(k.f, d)
			tellWord(t, "Of", w, got, e, w, api.OK)
			if !slices.Equal(room, was) {
				t.Error("Of changes what it is handed")
			}
		}
	}
}

// TestExamplesOf: what the chapter's table says of a third.
func TestExamplesOf(t *testing.T) {
	third, _, _ := dyad.Quo(num(1, 0), num(3, 0), 30)
	w, e := word.Of(api.F32, third)
	tellWord(t, "Of a third", 0, w, e, 0, api.ErrNone)
	third, _, _ = dyad.Cut(third, 24)
	w, e = word.Of(api.F32, third)
	tellWord(t, "Of a third with 24 bits", 0, w, e, 0x3EAAAAAA, api.OK)
}
