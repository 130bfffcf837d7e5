package word_test

import (
	"math"
	"testing"

	"cutplane/api"
	"cutplane/word"
)

func TestP3_4_Signs(t *testing.T) {
	for _, k := range tables() {
		for _, w := range k.words() {
			same, other, none := w, (w+k.sign)&k.full, w%k.sign
			if math.IsNaN(k.float(w)) {
				same, other, none = k.none, k.none, k.none
			}
			got, e := word.Canon(k.f, w)
			tellWord(t, "Canon", w, got, e, same, api.OK)
			got, e = word.Neg(k.f, w)
			tellWord(t, "Neg", w, got, e, other, api.OK)
			got, e = word.Abs(k.f, w)
			tellWord(t, "Abs", w, got, e, none, api.OK)
		}
	}
}

// edgeWords is words of each class at its ends, of both signs.
func edgeWords(k table) []uint64 {
	var list []uint64
	normal := uint64(1) << k.frac
	for _, w := range []uint64{0, 1, 2, normal - 1, normal, normal + 1, 2 * normal, uint64(k.field/2) << k.frac, k.inf - 1, k.inf, k.inf + 1, k.none, k.none + 1, k.sign - 1} {
		list = append(list, w, w|k.sign)
	}
	return list
}

func TestP3_4_CopySign(t *testing.T) {
	for _, k := range tables() {
		for _, w := range edgeWords(k) {
			for _, s := range edgeWords(k) {
				want := w%k.sign + s - s%k.sign
				if math.IsNaN(k.float(w)) {
					want = k.none
				}
				got, e := word.CopySign(k.f, w, s)
				tellWord(t, "CopySign", w, got, e, want, api.OK)
			}
		}
	}
}

// TestP3_4_CopySignWrong: either word may be one that the format has not.
func TestP3_4_CopySignWrong(t *testing.T) {
	for _, bad := range noWords() {
		for _, w := range append(edgeWords(tables()[0]), bad) {
			got, e := word.CopySign(api.F32, w, bad)
			tellWord(t, "CopySign, the sign no word,", w, got, e, 0, api.ErrWord)
			got, e = word.CopySign(api.F32, bad, w)
			tellWord(t, "CopySign of no word", bad, got, e, 0, api.ErrWord)
		}
		for _, f := range noFormats() {
			for _, w := range []uint64{0, 0x7FC00000, bad} {
				got, e := word.CopySign(f, w, bad)
				tellWord(t, "CopySign in no format", w, got, e, 0, api.ErrFormat)
				got, e = word.CopySign(f, bad, w)
				tellWord(t, "CopySign in no format", w, got, e, 0, api.ErrFormat)
			}
		}
	}
}

// next is the library's neighbour of a float towards an end.
func (k table) next(w uint64, end float64) uint64 {
	if k.f == api.F32 {
		return k.bitsOf(float64(math.Nextafter32(math.Float32frombits(uint32(w)), float32(end))))
	}
	return k.bitsOf(math.Nextafter(k.float(w), end))
}

// checkStep holds a step towards an end against the library.
func checkStep(t *testing.T, k table, w uint64, end float64, name string, call func(api.Format, uint64) (uint64, api.Errno)) {
	t.Helper()
	want, wantE := uint64(0), api.OK
	switch {
	case math.IsNaN(k.float(w)):
		want = k.none
	case k.float(w) == end:
		wantE = api.ErrNone
	default:
		want = k.next(w, end)
	}
	got, e := call(k.f, w)
	tellWord(t, name, w, got, e, want, wantE)
}

func TestP3_5_UpDown(t *testing.T) {
	for _, k := range tables() {
		for _, w := range append(k.words(), edgeWords(k)...) {
			checkStep(t, k, w, math.Inf(1), "Up", word.Up)
			checkStep(t, k, w, math.Inf(-1), "Down", word.Down)
		}
	}
}

func TestP3_5_Named(t *testing.T) {
	for _, k := range tables() {
		normal := uint64(1) << k.frac
		for _, c := range []struct {
			w, up uint64
			e     api.Errno
		}{
			{k.sign | k.inf, k.sign | k.inf - 1, api.OK},
			{k.sign | k.inf - 1, k.sign | k.inf - 2, api.OK},
			{k.sign | normal, k.sign | normal - 1, api.OK},
			{k.sign | 2, k.sign | 1, api.OK},
			{k.sign | 1, k.sign, api.OK},
			{k.sign, 1, api.OK},
			{0, 1, api.OK},
			{1, 2, api.OK},
			{normal - 1, normal, api.OK},
			{2*normal - 1, 2 * normal, api.OK},
			{k.inf - 1, k.inf, api.OK},
			{k.inf, 0, api.ErrNone},
			{k.inf + 1, k.none, api.OK},
			{k.sign | k.none, k.none, api.OK},
			{k.sign - 1, k.none, api.OK},
			{k.full, k.none, api.OK},
		} {
			got, e := word.Up(k.f, c.w)
			tellWord(t, "Up", c.w, got, e, c.up, c.e)
		}
	}
}

// TestP3_5_DownByUp: Down is Neg of Up of Neg, with the same errors.
func TestP3_5_DownByUp(t *testing.T) {
	for _, k := range tables() {
		for _, w := range k.words() {
			n, _ := word.Neg(k.f, w)
			up, wantE := word.Up(k.f, n)
			want := uint64(0)
			if wantE == api.OK {
				want, _ = word.Neg(k.f, up)
			}
			got, e := word.Down(k.f, w)
			tellWord(t, "Down", w, got, e, want, wantE)
		}
	}
}

// TestFollows: one step up after the other goes from -infinite to +infinite by way of -0; what lies far from both ends and from nought is left out.
func TestFollows(t *testing.T) {
	const steps = 1 << 20
	for _, k := range tables() {
		checkWalk(t, k, k.sign+k.inf, k.sign+k.inf-steps, steps)
		checkWalk(t, k, k.sign+steps, k.sign, steps)
		checkWalk(t, k, k.sign, steps, steps)
		checkWalk(t, k, 0, steps, steps)
		checkWalk(t, k, k.inf-steps, k.inf, steps)
	}
}

// checkWalk goes so many steps up, and back down.
func checkWalk(t *testing.T, k table, from, to uint64, steps int) {
	t.Helper()
	w := from
	for range steps {
		up, e := word.Up(k.f, w)
		if e != api.OK || !(k.float(up) > k.float(w)) {
			t.Fatalf("Up of %x: %x error %d", w, up, e)
		}
		back, e := word.Down(k.f, up)
		if e != api.OK || k.float(back) != k.float(w) {
			t.Fatalf("Down of %x: %x error %d", up, back, e)
		}
		w = up
	}
	if w != to {
		t.Fatalf("from %x one comes to %x, not to %x", from, w, to)
	}
}

// wordCalls is each call that is handed one word, its answer left out but whether that is zero.
func wordCalls() map[string]func(f api.Format, w uint64) (bool, api.Errno) {
	return map[string]func(f api.Format, w uint64) (bool, api.Errno){
		"Good":  func(f api.Format, w uint64) (bool, api.Errno) { return true, word.Good(f, w) },
		"Split": func(f api.Format, w uint64) (bool, api.Errno) { x, e := word.Split(f, w); return x == api.Fields{}, e },
		"Class": func(f api.Format, w uint64) (bool, api.Errno) { c, e := word.Class(f, w); return c == 0, e },
		"Value": func(f api.Format, w uint64) (bool, api.Errno) {
			d, e := word.Value(f, w)
			return sameDyad(d, api.Dyad{}), e
		},
		"Unit": func(f api.Format, w uint64) (bool, api.Errno) {
			d, e := word.Unit(f, w)
			return sameDyad(d, api.Dyad{}), e
		},
		"Canon": func(f api.Format, w uint64) (bool, api.Errno) { v, e := word.Canon(f, w); return v == 0, e },
		"Neg":   func(f api.Format, w uint64) (bool, api.Errno) { v, e := word.Neg(f, w); return v == 0, e },
		"Abs":   func(f api.Format, w uint64) (bool, api.Errno) { v, e := word.Abs(f, w); return v == 0, e },
		"Up":    func(f api.Format, w uint64) (bool, api.Errno) { v, e := word.Up(f, w); return v == 0, e },
		"Down":  func(f api.Format, w uint64) (bool, api.Errno) { v, e := word.Down(f, w); return v == 0, e },
	}
}

// TestP1_Errors: a format that is none comes first, then a word that the format has not, and beside them all is zero.
func TestP1_Errors(t *testing.T) {
	for name, call := range wordCalls() {
		for _, w := range noWords() {
			if zero, e := call(api.F32, w); !zero || e != api.ErrWord {
				t.Errorf("%s of %x in F32: error %d", name, w, e)
			}
		}
		for _, f := range noFormats() {
			for _, w := range append(noWords(), edgeWords(tables()[0])...) {
				if zero, e := call(f, w); !zero || e != api.ErrFormat {
					t.Errorf("%s of %x in format %d: error %d", name, w, f, e)
				}
			}
		}
	}
}
