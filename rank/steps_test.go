package rank_test

import (
	"math"
	"math/big"
	"testing"

	"cutplane/api"
	"cutplane/rank"
	"cutplane/word"
)

// modelSteps is how far the places of two words that are no NaN are apart.
func modelSteps(k table, a, b uint64) uint64 {
	n := new(big.Int).Sub(k.place(a), k.place(b))
	return n.Abs(n).Uint64()
}

// modelMove is the word n places above that of a word which is no NaN, or ErrRange.
func modelMove(k table, w uint64, n int64) answer {
	if n == 0 {
		return answer{n: w}
	}
	to := new(big.Int).Add(k.place(w), big.NewInt(n))
	size := new(big.Int).Abs(to)
	switch {
	case size.Cmp(k.place(k.inf)) > 0:
		return answer{err: api.ErrRange}
	case to.Sign() < 0:
		return answer{n: size.Uint64() | k.sign}
	}
	return answer{n: size.Uint64()}
}

func TestP7_3_StepsRows(t *testing.T) {
	for _, k := range tables() {
		for _, c := range []struct{ a, b, want uint64 }{
			{0, 0, 0},
			{0, k.sign, 0},
			{k.sign, k.sign, 0},
			{0, 1, 1},
			{k.sign, 1, 1},
			{k.sign | 1, 0, 1},
			{k.sign | 1, k.sign, 1},
			{k.sign | 1, 1, 2},
			{k.sign | 3, 4, 7},
			{k.one, k.one, 0},
			{k.low - 1, k.low, 1},
			{k.one, k.one + k.low, k.low},
			{k.one | k.sign, k.one, 2 * k.one},
			{k.inf - 1, k.inf, 1},
			{k.inf, k.inf, 0},
			{0, k.inf, k.inf},
			{k.sign | k.inf, k.sign, k.inf},
			{k.sign | k.inf, k.inf - 1, 2*k.inf - 1},
			{k.sign | k.inf, k.inf, 2 * k.inf},
		} {
			got(rank.Steps(k.f, c.a, c.b)).is(t, c.want, "Steps", k, c.a, c.b)
			got(rank.Steps(k.f, c.b, c.a)).is(t, c.want, "Steps", k, c.b, c.a)
		}
	}
	// From one infinite word to the other there are more steps than an int64 holds.
	k := table64()
	got(rank.Steps(api.F64, 0xFFF0000000000000, 0x7FF0000000000000)).is(t, 0xFFE0000000000000, "Steps", k)
}

func TestP7_3_StepsModel(t *testing.T) {
	for _, k := range tables() {
		for _, a := range k.ladder() {
			for _, b := range k.ladder() {
				got(rank.Steps(k.f, a, b)).is(t, modelSteps(k, a, b), "Steps", k, a, b)
			}
		}
		d := dice(73)
		for range 20000 {
			a, b := k.thrown(&d), k.thrown(&d)
			if !k.isNaN(a) && !k.isNaN(b) {
				got(rank.Steps(k.f, a, b)).is(t, modelSteps(k, a, b), "Steps", k, a, b)
			}
		}
	}
}

// TestP7_3_NaN: there are no steps from a NaN, nor to one, and no word is any places above it.
func TestP7_3_NaN(t *testing.T) {
	for _, k := range tables() {
		for _, nan := range k.nans() {
			for _, w := range k.every() {
				got(rank.Steps(k.f, nan, w)).refused(t, api.ErrNone, "Steps", nan, w)
				got(rank.Steps(k.f, w, nan)).refused(t, api.ErrNone, "Steps", w, nan)
			}
			for _, n := range []int64{0, 1, -1, 7, math.MaxInt64, math.MinInt64} {
				got(rank.Move(k.f, nan, n)).refused(t, api.ErrNone, "Move", nan, uint64(n))
			}
		}
	}
}

// TestP7_3_MoveBy0: each word stays as it is, -0 too.
func TestP7_3_MoveBy0(t *testing.T) {
	for _, k := range tables() {
		for _, w := range k.ladder() {
			got(rank.Move(k.f, w, 0)).is(t, w, "Move by 0", k, w)
		}
	}
}

func TestP7_3_MoveRows(t *testing.T) {
	for _, k := range tables() {
		for _, c := range []struct {
			w    uint64
			n    int64
			want uint64
		}{
			{0, 1, 1},
			{0, -1, k.sign | 1},
			{k.sign, 1, 1},
			{k.sign, -1, k.sign | 1},
			{1, -1, 0},
			{k.sign | 1, 1, 0},
			{1, -2, k.sign | 1},
			{k.sign | 1, 2, 1},
			{k.sign | 5, 5, 0},
			{k.low - 1, 1, k.low},
			{k.low, -1, k.low - 1},
			{k.one, 1, k.one + 1},
			{k.one | k.sign, 1, k.one - 1 | k.sign},
			{k.one, -int64(k.one), 0},
			{k.one | k.sign, int64(k.one), 0},
			{k.one, -int64(k.one) - 7, k.sign | 7},
			{k.one | k.sign, int64(k.one) + 7, 7},
			{k.inf - 1, 1, k.inf},
			{k.inf - 1 | k.sign, -1, k.inf | k.sign},
			{k.inf, -1, k.inf - 1},
			{k.inf | k.sign, 1, k.inf - 1 | k.sign},
			{0, int64(k.inf), k.inf},
			{k.sign, int64(k.inf), k.inf},
			{0, -int64(k.inf), k.inf | k.sign},
			{k.sign, -int64(k.inf), k.inf | k.sign},
			{k.inf, -int64(k.inf), 0},
			{k.inf | k.sign, int64(k.inf), 0},
		} {
			got(rank.Move(k.f, c.w, c.n)).is(t, c.want, "Move", k, c.w, uint64(c.n))
		}
	}
}

// TestP7_3_MoveEnds: to each infinite word, and one place beyond, from everywhere; an int64 may hold too little for it.
func TestP7_3_MoveEnds(t *testing.T) {
	for _, k := range tables() {
		for _, w := range k.ladder() {
			up, down := modelSteps(k, w, k.inf), modelSteps(k, w, k.inf|k.sign)
			if up > 0 && up < math.MaxInt64 {
				got(rank.Move(k.f, w, int64(up))).is(t, k.inf, "Move to the upper end", k, w)
			}
			if down > 0 && down <= math.MaxInt64 {
				got(rank.Move(k.f, w, -int64(down))).is(t, k.inf|k.sign, "Move to the lower end", k, w)
			}
			if up < math.MaxInt64 {
				got(rank.Move(k.f, w, int64(up)+1)).refused(t, api.ErrRange, "Move beyond the upper end", w)
			}
			if down <= math.MaxInt64 {
				got(rank.Move(k.f, w, -int64(down)-1)).refused(t, api.ErrRange, "Move beyond the lower end", w)
			}
		}
	}
}

// TestP7_3_MoveFar: by the least and the greatest int64.
func TestP7_3_MoveFar(t *testing.T) {
	k := table32()
	for _, w := range k.ladder() {
		got(rank.Move(api.F32, w, math.MaxInt64)).refused(t, api.ErrRange, "Move by the greatest", w)
		got(rank.Move(api.F32, w, math.MinInt64)).refused(t, api.ErrRange, "Move by the least", w)
	}
	g := table64()
	for _, w := range []uint64{0, g.sign, 1, g.one, g.inf - 1, g.inf} {
		got(rank.Move(api.F64, w, math.MaxInt64)).refused(t, api.ErrRange, "Move by the greatest", w)
		got(rank.Move(api.F64, w|g.sign, math.MinInt64)).refused(t, api.ErrRange, "Move by the least", w|g.sign)
	}
	got(rank.Move(api.F64, 0xFFF0000000000000, math.MaxInt64)).is(t, 0x000FFFFFFFFFFFFF, "Move by the greatest", g)
	got(rank.Move(api.F64, 0x7FF0000000000000, -math.MaxInt64)).is(t, 0x800FFFFFFFFFFFFF, "Move by the least but one", g)
	got(rank.Move(api.F64, 0x7FF0000000000000, math.MinInt64)).is(t, 0x8010000000000000, "Move by the least", g)
	got(rank.Move(api.F64, 0x800FFFFFFFFFFFFF, math.MaxInt64)).is(t, 0x7FF0000000000000, "Move by the greatest", g)
	got(rank.Move(api.F64, 0x800FFFFFFFFFFFFE, math.MaxInt64)).refused(t, api.ErrRange, "Move by the greatest", 0x800FFFFFFFFFFFFE)
	got(rank.Move(api.F64, 0x0010000000000000, math.MinInt64)).is(t, 0xFFF0000000000000, "Move by the least", g)
	got(rank.Move(api.F64, 0x000FFFFFFFFFFFFF, math.MinInt64)).refused(t, api.ErrRange, "Move by the least", 0x000FFFFFFFFFFFFF)
}

func TestP7_3_MoveModel(t *testing.T) {
	for _, k := range tables() {
		d := dice(74)
		far := []int64{1, -1, 2, -2, 3, -3, 1000, -1000, int64(k.low), -int64(k.low), int64(k.inf), -int64(k.inf), int64(k.sign - 1), -int64(k.sign - 1), 1 << 32, -1 << 32, math.MaxInt64, math.MinInt64, math.MinInt64 + 1}
		for _, w := range k.ladder() {
			for _, n := range far {
				checkMove(t, k, w, n)
			}
			for range 200 {
				checkMove(t, k, w, int64(d.next())>>d.below(64))
			}
		}
		for range 20000 {
			if w := k.thrown(&d); !k.isNaN(w) {
				checkMove(t, k, w, int64(d.next())>>d.below(64))
			}
		}
	}
}

func checkMove(t *testing.T, k table, w uint64, n int64) {
	t.Helper()
	if a, want := got(rank.Move(k.f, w, n)), modelMove(k, w, n); a != want {
		t.Fatalf("Move, format %d, of %x by %d: %x error %d, not %x error %d", k.f, w, n, a.n, a.err, want.n, want.err)
	}
}

// TestP7_3_Neighbours: one place up or down is the library's neighbour, and the nought there is +0.
func TestP7_3_Neighbours(t *testing.T) {
	for _, k := range tables() {
		d := dice(75)
		words := k.ladder()
		for range 5000 {
			words = append(words, k.thrown(&d))
		}
		for _, w := range words {
			if k.isNaN(w) {
				continue
			}
			checkNeighbour(t, k, w, 1, k.inf)
			checkNeighbour(t, k, w, -1, k.inf|k.sign)
		}
	}
}

func checkNeighbour(t *testing.T, k table, w uint64, n int64, end uint64) {
	t.Helper()
	if w == end {
		got(rank.Move(k.f, w, n)).refused(t, api.ErrRange, "Move beyond the end", w)
		return
	}
	want := k.next(w, k.float(end))
	if want == k.sign {
		want = 0
	}
	got(rank.Move(k.f, w, n)).is(t, want, "Move", k, w, uint64(n))
}

// TestP7_3_Walk: so many steps up as Steps tells lead from the lower word to the upper one; Move goes the same way at once, and back.
func TestP7_3_Walk(t *testing.T) {
	for _, k := range tables() {
		for _, from := range []uint64{k.sign | 7, k.sign, 0, k.low - 5, k.sign | k.low + 3, k.one - 2, k.inf - 9, k.sign | k.inf} {
			w := from
			for n := range uint64(10) {
				got(rank.Steps(k.f, from, w)).is(t, n, "Steps on a walk", k, from, w)
				there, back := w, from
				if n > 0 && there == k.sign {
					there = 0
				}
				if n > 0 && back == k.sign {
					back = 0
				}
				got(rank.Move(k.f, from, int64(n))).is(t, there, "Move on a walk", k, from, n)
				got(rank.Move(k.f, w, -int64(n))).is(t, back, "Move back", k, w, n)
				if w == k.inf {
					break
				}
				w, _ = word.Up(k.f, w)
			}
		}
	}
}
