package word_test

import (
	"testing"

	"cutplane/api"
	"cutplane/word"
)

func TestP3_1_Good(t *testing.T) {
	for _, k := range tables() {
		for _, w := range k.words() {
			if e := word.Good(k.f, w); e != api.OK {
				t.Fatalf("Good of %x in format %d: %d", w, k.f, e)
			}
		}
	}
	for _, w := range noWords() {
		if e := word.Good(api.F32, w); e != api.ErrWord {
			t.Errorf("Good of %x in F32: %d", w, e)
		}
		if e := word.Good(api.F64, w); e != api.OK {
			t.Errorf("Good of %x in F64: %d", w, e)
		}
	}
	if e := word.Good(api.F32, 1<<32-1); e != api.OK {
		t.Error("Good of 2^32 - 1 in F32:", e)
	}
}

// fieldsOf takes a word apart by division alone.
func fieldsOf(k table, w uint64) api.Fields {
	step := uint64(1) << k.frac
	return api.Fields{Neg: w >= k.sign, Exp: int(w % k.sign / step), Frac: w % step}
}

func TestP3_1_Split(t *testing.T) {
	for _, k := range tables() {
		for _, w := range k.words() {
			x, e := word.Split(k.f, w)
			if x != fieldsOf(k, w) || e != api.OK {
				t.Fatalf("Split of %x: %v error %d", w, x, e)
			}
			back, e := word.Join(k.f, x)
			tellWord(t, "Join of Split", w, back, e, w, api.OK)
		}
	}
}

func TestP3_1_SplitNamed(t *testing.T) {
	for _, c := range []struct {
		f    api.Format
		w    uint64
		want api.Fields
	}{
		{api.F32, 0, api.Fields{}},
		{api.F32, 0x80000000, api.Fields{Neg: true}},
		{api.F32, 0x3F800000, api.Fields{Exp: 127}},
		{api.F32, 0x80000001, api.Fields{Neg: true, Frac: 1}},
		{api.F32, 0x007FFFFF, api.Fields{Frac: 1<<23 - 1}},
		{api.F32, 0x00800000, api.Fields{Exp: 1}},
		{api.F32, 0xFF7FFFFF, api.Fields{Neg: true, Exp: 254, Frac: 1<<23 - 1}},
		{api.F32, 0xFF800000, api.Fields{Neg: true, Exp: 255}},
		{api.F32, 0xFFFFFFFF, api.Fields{Neg: true, Exp: 255, Frac: 1<<23 - 1}},
		{api.F64, 0xBFF0000000000000, api.Fields{Neg: true, Exp: 1023}},
		{api.F64, 0x000FFFFFFFFFFFFF, api.Fields{Frac: 1<<52 - 1}},
		{api.F64, 0x0010000000000000, api.Fields{Exp: 1}},
		{api.F64, 0x7FEFFFFFFFFFFFFF, api.Fields{Exp: 2046, Frac: 1<<52 - 1}},
		{api.F64, 0x7FF0000000000001, api.Fields{Exp: 2047, Frac: 1}},
		{api.F64, fullWord, api.Fields{Neg: true, Exp: 2047, Frac: 1<<52 - 1}},
	} {
		if x, e := word.Split(c.f, c.w); x != c.want || e != api.OK {
			t.Errorf("Split of %x: %v error %d", c.w, x, e)
		}
		w, e := word.Join(c.f, c.want)
		tellWord(t, "Join", c.w, w, e, c.w, api.OK)
	}
}

// TestP3_1_JoinEnds: fields at their ends are joined.
func TestP3_1_JoinEnds(t *testing.T) {
	for _, k := range tables() {
		for _, exp := range []int{0, 1, k.field - 1, k.field} {
			for _, frac := range k.fracs() {
				for _, neg := range []bool{false, true} {
					x := api.Fields{Neg: neg, Exp: exp, Frac: frac}
					w, e := word.Join(k.f, x)
					if e != api.OK || w > k.full || fieldsOf(k, w) != x {
						t.Errorf("Join of %v: %x error %d", x, w, e)
					}
				}
			}
		}
	}
}

// TestP3_1_JoinWrong: fields past their ends are not, whatever the other one is.
func TestP3_1_JoinWrong(t *testing.T) {
	for _, k := range tables() {
		full := uint64(1)<<k.frac - 1
		for _, exp := range []int{-1, leastInt, k.field + 1, 1 << 32, greatInt} {
			for _, frac := range []uint64{0, 1, full, full + 1, fullWord} {
				checkNotJoined(t, k.f, exp, frac)
			}
		}
		for _, frac := range []uint64{full + 1, full + 2, 2*full + 1, 1 << 63, fullWord} {
			for _, exp := range []int{0, 1, k.field, -1, k.field + 1} {
				checkNotJoined(t, k.f, exp, frac)
			}
		}
	}
}

func checkNotJoined(t *testing.T, f api.Format, exp int, frac uint64) {
	t.Helper()
	for _, neg := range []bool{false, true} {
		x := api.Fields{Neg: neg, Exp: exp, Frac: frac}
		w, e := word.Join(f, x)
		tellWord(t, "Join of wrong fields", frac, w, e, 0, api.ErrArg)
		for _, none := range noFormats() {
			w, e = word.Join(none, x)
			tellWord(t, "Join of wrong fields in no format", frac, w, e, 0, api.ErrFormat)
		}
	}
}

func TestP3_1_JoinNoFormat(t *testing.T) {
	for _, f := range noFormats() {
		for _, x := range []api.Fields{{}, {Exp: 127}, {Neg: true, Exp: 255, Frac: 1}} {
			w, e := word.Join(f, x)
			tellWord(t, "Join in no format", x.Frac, w, e, 0, api.ErrFormat)
		}
	}
}
