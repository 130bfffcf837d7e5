package rank_test

import (
	"cmp"
	"math"
	"testing"

	"cutplane/api"
	"cutplane/rank"
)

// modelCmp is how two words stand by the library's floats.
func modelCmp(k table, a, b uint64) api.Order {
	x, y := k.float(a), k.float(b)
	switch {
	case x < y:
		return api.Less
	case x == y:
		return api.Equal
	case x > y:
		return api.Greater
	}
	return api.Unordered
}

// modelTotal is the total order by the library's floats.
func modelTotal(k table, a, b uint64) int {
	x, y := k.float(a), k.float(b)
	switch {
	case math.IsNaN(x) && math.IsNaN(y):
		return 0
	case math.IsNaN(x) || x > y:
		return 1
	case math.IsNaN(y) || x < y:
		return -1
	case math.Signbit(x) == math.Signbit(y):
		return 0
	case math.Signbit(x):
		return -1
	}
	return 1
}

// opposite is the order of both the other way round.
func opposite(o api.Order) api.Order {
	switch o {
	case api.Less:
		return api.Greater
	case api.Greater:
		return api.Less
	}
	return o
}

func TestP7_1_CmpRows(t *testing.T) {
	for _, k := range tables() {
		for _, c := range []struct {
			a, b uint64
			want api.Order
		}{
			{0, 0, api.Equal},
			{0, k.sign, api.Equal},
			{k.sign, k.sign, api.Equal},
			{0, 1, api.Less},
			{k.sign, 1, api.Less},
			{k.sign | 1, 0, api.Less},
			{k.sign | 1, k.sign, api.Less},
			{k.sign | 1, 1, api.Less},
			{1, 2, api.Less},
			{k.sign | 2, k.sign | 1, api.Less},
			{k.low - 1, k.low, api.Less},
			{k.one, k.one, api.Equal},
			{k.one | k.sign, k.one | k.sign, api.Equal},
			{k.one | k.sign, k.one, api.Less},
			{k.one, k.one + 1, api.Less},
			{k.one | k.sign, k.one - 1, api.Less},
			{k.inf - 1, k.inf, api.Less},
			{k.inf, k.inf, api.Equal},
			{k.inf | k.sign, k.inf | k.sign, api.Equal},
			{k.inf | k.sign, k.inf, api.Less},
			{k.inf | k.sign, k.inf - 1 | k.sign, api.Less},
			{k.nan, k.nan, api.Unordered},
			{k.inf + 1, k.inf, api.Unordered},
			{k.nan, 0, api.Unordered},
			{k.nan | k.sign, k.inf | k.sign, api.Unordered},
			{k.full, k.one, api.Unordered},
		} {
			gotOrder(rank.Cmp(k.f, c.a, c.b)).is(t, uint64(c.want), "Cmp", k, c.a, c.b)
			gotOrder(rank.Cmp(k.f, c.b, c.a)).is(t, uint64(opposite(c.want)), "Cmp", k, c.b, c.a)
		}
	}
}

func TestP7_1_Model(t *testing.T) {
	for _, k := range tables() {
		for _, a := range k.every() {
			for _, b := range k.every() {
				checkOrder(t, k, a, b)
			}
		}
		d := dice(71)
		for range 20000 {
			a, b := k.thrown(&d), k.thrown(&d)
			checkOrder(t, k, a, b)
			checkOrder(t, k, a, a^1)
			checkOrder(t, k, a, a^k.sign)
		}
	}
}

// checkOrder holds Cmp and Total against the library's floats, and against each other.
func checkOrder(t *testing.T, k table, a, b uint64) {
	t.Helper()
	order, total := modelCmp(k, a, b), modelTotal(k, a, b)
	gotOrder(rank.Cmp(k.f, a, b)).is(t, uint64(order), "Cmp", k, a, b)
	gotSign(rank.Total(k.f, a, b)).is(t, uint64(total), "Total", k, a, b)
	if order == api.Less && total != -1 || order == api.Greater && total != 1 {
		t.Fatalf("Cmp and Total of %x and %x: %d and %d", a, b, order, total)
	}
}

// TestP7_1_Total: the ladder stands as it is written, and each NaN above it, all of them level.
func TestP7_1_Total(t *testing.T) {
	for _, k := range tables() {
		ladder := k.ladder()
		for i, a := range ladder {
			for j, b := range ladder {
				gotSign(rank.Total(k.f, a, b)).is(t, uint64(cmp.Compare(i, j)), "Total", k, a, b)
			}
			for _, nan := range k.nans() {
				gotSign(rank.Total(k.f, a, nan)).is(t, uint64(1<<64-1), "Total", k, a, nan)
				gotSign(rank.Total(k.f, nan, a)).is(t, 1, "Total", k, nan, a)
			}
		}
		for _, a := range k.nans() {
			for _, b := range k.nans() {
				gotSign(rank.Total(k.f, a, b)).is(t, 0, "Total", k, a, b)
			}
		}
	}
}

// TestP7_2_Ladder: the lower and the higher one of the ladder, both noughts included, in either place.
func TestP7_2_Ladder(t *testing.T) {
	for _, k := range tables() {
		ladder := k.ladder()
		for i, a := range ladder {
			for j, b := range ladder {
				got(rank.Min(k.f, a, b)).is(t, ladder[min(i, j)], "Min", k, a, b)
				got(rank.Max(k.f, a, b)).is(t, ladder[max(i, j)], "Max", k, a, b)
			}
		}
	}
}

// TestP7_2_NaN: a NaN of any bits gives way to the other word, in either place; of two the canonical one is told.
func TestP7_2_NaN(t *testing.T) {
	for _, k := range tables() {
		for _, nan := range k.nans() {
			for _, w := range k.every() {
				want := k.canon(w)
				got(rank.Min(k.f, nan, w)).is(t, want, "Min", k, nan, w)
				got(rank.Min(k.f, w, nan)).is(t, want, "Min", k, w, nan)
				got(rank.Max(k.f, nan, w)).is(t, want, "Max", k, nan, w)
				got(rank.Max(k.f, w, nan)).is(t, want, "Max", k, w, nan)
			}
		}
	}
}

// TestP7_2_Library: for words that are no NaN both are what the library has.
func TestP7_2_Library(t *testing.T) {
	for _, k := range tables() {
		d := dice(72)
		for range 20000 {
			a, b := k.thrown(&d), k.thrown(&d)
			if d.below(8) == 0 {
				b = a ^ k.sign
			}
			if k.isNaN(a) || k.isNaN(b) {
				continue
			}
			x, y := k.float(a), k.float(b)
			got(rank.Min(k.f, a, b)).is(t, k.bitsOf(math.Min(x, y)), "Min", k, a, b)
			got(rank.Max(k.f, a, b)).is(t, k.bitsOf(math.Max(x, y)), "Max", k, a, b)
		}
	}
}
