package rank_test

import (
	"math"
	"testing"

	"cutplane/api"
	"cutplane/rank"
)

// call is a call of two words, of which one is left out where it takes one alone.
type call struct {
	name string
	of   func(f api.Format, a, b uint64) answer
}

// calls is each call that answers one thing.
func calls() []call {
	list := []call{
		{"Cmp", func(f api.Format, a, b uint64) answer { return gotOrder(rank.Cmp(f, a, b)) }},
		{"Total", func(f api.Format, a, b uint64) answer { return gotSign(rank.Total(f, a, b)) }},
		{"Min", func(f api.Format, a, b uint64) answer { return got(rank.Min(f, a, b)) }},
		{"Max", func(f api.Format, a, b uint64) answer { return got(rank.Max(f, a, b)) }},
		{"Steps", func(f api.Format, a, b uint64) answer { return got(rank.Steps(f, a, b)) }},
	}
	for _, n := range moves() {
		list = append(list, call{"Move", func(f api.Format, a, _ uint64) answer { return got(rank.Move(f, a, n)) }})
	}
	return list
}

// moves is how far Move is asked to go.
func moves() []int64 { return []int64{0, 1, -1, 1 << 40, math.MaxInt64, math.MinInt64} }

// noFormats is all formats that are none of both.
func noFormats() []api.Format {
	var list []api.Format
	for i := range 256 {
		if f := api.Format(i); f != api.F32 && f != api.F64 {
			list = append(list, f)
		}
	}
	return list
}

// tooGreat is words that F32 has not: each uint64 is one of F64.
func tooGreat() []uint64 {
	return []uint64{1 << 32, 1<<32 | 1, 1<<32 | 0x3F800000, 1<<32 | 0x7FC00000, 1<<33 - 1, 1 << 63, 0x3FF0000000000000, 0x7FF8000000000000, 1<<64 - 1}
}

func someWords() []uint64 { return append(tooGreat(), table32().every()...) }

// TestP1_FormatFirst: a format that is none comes first, whatever the words are.
func TestP1_FormatFirst(t *testing.T) {
	for _, f := range noFormats() {
		for _, c := range calls() {
			for _, a := range []uint64{0, 1, 0x7F800000, 0x7FC00000, 1 << 32, 1<<64 - 1} {
				for _, b := range []uint64{0, 0x3F800000, 0xFFC00001, 1 << 33, 0xFFF8000000000000} {
					c.of(f, a, b).refused(t, api.ErrFormat, c.name, uint64(f), a, b)
					c.of(f, b, a).refused(t, api.ErrFormat, c.name, uint64(f), b, a)
				}
			}
		}
	}
}

// TestP1_Words: then a word that F32 has not, in either place, though the other one is a NaN, and however far Move is to go.
func TestP1_Words(t *testing.T) {
	for _, bad := range tooGreat() {
		for _, w := range someWords() {
			for _, c := range calls() {
				c.of(api.F32, bad, w).refused(t, api.ErrWord, c.name, bad, w)
				if c.name != "Move" {
					c.of(api.F32, w, bad).refused(t, api.ErrWord, c.name, w, bad)
				}
			}
		}
	}
}

// TestP1_FullWords: the greatest word of a format is one, a NaN.
func TestP1_FullWords(t *testing.T) {
	for _, k := range tables() {
		gotOrder(rank.Cmp(k.f, k.full, k.full)).is(t, uint64(api.Unordered), "Cmp", k, k.full)
		gotSign(rank.Total(k.f, k.full, k.inf)).is(t, 1, "Total", k, k.full, k.inf)
		got(rank.Min(k.f, k.full, k.full)).is(t, k.nan, "Min", k, k.full)
		got(rank.Max(k.f, k.full, k.one)).is(t, k.one, "Max", k, k.full, k.one)
		got(rank.Steps(k.f, k.full, k.full)).refused(t, api.ErrNone, "Steps", k.full)
		got(rank.Move(k.f, k.full, 0)).refused(t, api.ErrNone, "Move", k.full)
		sortedIs(t, k, []uint64{k.full, k.one}, []uint64{k.one, k.nan})
	}
}

// TestP1_AnyWord: each uint64 is a word of F64, and none of them is refused.
func TestP1_AnyWord(t *testing.T) {
	for _, w := range someWords() {
		for _, c := range calls()[:4] {
			if a := c.of(api.F64, w, w); a.err != api.OK {
				t.Fatalf("%s of %x: error %d", c.name, w, a.err)
			}
		}
	}
}

// TestP1_Same: a second call answers the same, whatever was asked between.
func TestP1_Same(t *testing.T) {
	for _, k := range tables() {
		d := dice(80)
		for range 500 {
			a, b := k.thrown(&d), k.thrown(&d)
			var first []answer
			for _, c := range calls() {
				first = append(first, c.of(k.f, a, b))
			}
			rank.Sort(k.f, []uint64{b, a})
			for i, c := range calls() {
				if again := c.of(k.f, a, b); again != first[i] {
					t.Fatalf("%s of %x and %x: %v, then %v", c.name, a, b, first[i], again)
				}
			}
		}
	}
}

// TestExamples: the chapter's table.
func TestExamples(t *testing.T) {
	k := table32()
	gotOrder(rank.Cmp(api.F32, 0x80000000, 0)).is(t, uint64(api.Equal), "Cmp", k)
	gotOrder(rank.Cmp(api.F32, 0x7FC00000, 0x7FC00000)).is(t, uint64(api.Unordered), "Cmp", k)
	gotSign(rank.Total(api.F32, 0x80000000, 0)).is(t, 1<<64-1, "Total", k)
	gotSign(rank.Total(api.F32, 0xFFC00000, 0x7F800000)).is(t, 1, "Total", k)
	got(rank.Min(api.F32, 0x7FC00000, 0x3F800000)).is(t, 0x3F800000, "Min", k)
	got(rank.Max(api.F32, 0, 0x80000000)).is(t, 0, "Max", k)
	got(rank.Steps(api.F32, 0x80000001, 1)).is(t, 2, "Steps", k)
	got(rank.Steps(api.F32, 0xFF800000, 0x7F800000)).is(t, 4278190080, "Steps", k)
	got(rank.Move(api.F32, 1, -1)).is(t, 0, "Move", k)
	got(rank.Move(api.F32, 1, -2)).is(t, 0x80000001, "Move", k)
	got(rank.Move(api.F32, 0x7F800000, 1)).refused(t, api.ErrRange, "Move")
	sortedIs(t, k, []uint64{0x3F800000, 0xFFC00001, 0, 0x80000000}, []uint64{0x80000000, 0, 0x3F800000, 0x7FC00000})
}
