package rank_test

import (
	"slices"
	"testing"

	"cutplane/api"
	"cutplane/rank"
)

const (
	longest = 4096
	mark    = 0xDEADBEEF
)

// sortedIs fails the test, if Sort does not answer that list.
func sortedIs(t *testing.T, k table, l, want []uint64) {
	t.Helper()
	if s, e := rank.Sort(k.f, l); e != api.OK || !slices.Equal(s, want) {
		t.Fatalf("Sort, format %d, of %x: %x error %d, not %x", k.f, l, s, e, want)
	}
}

// sortRefused fails the test, if Sort does not answer that error, and no list.
func sortRefused(t *testing.T, f api.Format, l []uint64, want api.Errno) {
	t.Helper()
	if s, e := rank.Sort(f, l); e != want || len(s) != 0 {
		t.Fatalf("Sort, format %d, of %d words: %x error %d, not error %d", f, len(l), s, e, want)
	}
}

// modelSort puts each word in its place among those before it, by the library's floats.
func modelSort(k table, l []uint64) []uint64 {
	var sorted []uint64
	for _, w := range l {
		w = k.canon(w)
		at, _ := slices.BinarySearchFunc(sorted, w, func(a, b uint64) int { return modelTotal(k, a, b) })
		sorted = slices.Insert(sorted, at, w)
	}
	return sorted
}

// mix brings the list into an order that looks thrown.
func mix(d *dice, l []uint64) {
	for i := range l {
		j := d.below(i + 1)
		l[i], l[j] = l[j], l[i]
	}
}

func TestP7_4_Short(t *testing.T) {
	for _, k := range tables() {
		sortedIs(t, k, nil, nil)
		sortedIs(t, k, []uint64{}, nil)
		for _, a := range k.every() {
			sortedIs(t, k, []uint64{a}, []uint64{k.canon(a)})
			for _, b := range k.every() {
				sortedIs(t, k, []uint64{a, b}, modelSort(k, []uint64{a, b}))
			}
		}
	}
}

// TestP7_4_Ladder: the ladder comes out of each order into which it is brought, with NaNs and words that stand there more than once.
func TestP7_4_Ladder(t *testing.T) {
	for _, k := range tables() {
		d := dice(76)
		want := k.ladder()
		for range k.nans() {
			want = append(want, k.nan)
		}
		l := k.every()
		for range 50 {
			sortedIs(t, k, l, want)
			mix(&d, l)
		}
		slices.Reverse(l)
		sortedIs(t, k, append(slices.Clone(l), l...), twice(want))
	}
}

// twice is the list with each word once more behind itself.
func twice(l []uint64) []uint64 {
	var out []uint64
	for _, w := range l {
		out = append(out, w, w)
	}
	return out
}

// TestP7_4_NoughtsAndNaNs: -0 comes ahead of +0, however many there are, and every NaN is the canonical one at the end.
func TestP7_4_NoughtsAndNaNs(t *testing.T) {
	for _, k := range tables() {
		d := dice(77)
		var l, want []uint64
		for range 300 {
			l = append(l, k.sign, 0, k.nans()[d.below(len(k.nans()))])
		}
		mix(&d, l)
		for i := range 900 {
			want = append(want, []uint64{k.sign, 0, k.nan}[i/300])
		}
		sortedIs(t, k, l, want)
	}
}

func TestP7_4_Model(t *testing.T) {
	for _, k := range tables() {
		d := dice(78)
		for range 300 {
			var l []uint64
			for range d.below(60) {
				l = append(l, k.thrown(&d))
			}
			want := modelSort(k, l)
			sortedIs(t, k, l, want)
			slices.Reverse(l)
			sortedIs(t, k, l, want)
		}
	}
}

// TestP7_4_Long: so many words are sorted, and not one more, even if the format has not one of them.
func TestP7_4_Long(t *testing.T) {
	for _, k := range tables() {
		d := dice(79)
		var l []uint64
		for range longest {
			l = append(l, k.thrown(&d))
		}
		sortedIs(t, k, l, modelSort(k, l))
		sortRefused(t, k.f, append(l, 0), api.ErrLong)
		sortRefused(t, k.f, append(l, l...), api.ErrLong)
		sortRefused(t, k.f, append(l, 1<<63), api.ErrLong)
		l[7] = 1 << 32
		sortRefused(t, k.f, append(l, 0), api.ErrLong)
	}
}

// TestP7_4_Words: a word that F32 has not, in each place, whatever the others are.
func TestP7_4_Words(t *testing.T) {
	k := table32()
	for _, bad := range tooGreat() {
		sortRefused(t, api.F32, []uint64{bad}, api.ErrWord)
		for i := range k.every() {
			l := k.every()
			l[i] = bad
			sortRefused(t, api.F32, l, api.ErrWord)
			sortedIs(t, table64(), l, modelSort(table64(), l))
		}
	}
	l := slices.Repeat([]uint64{0}, longest)
	l[longest-1] = 1 << 32
	sortRefused(t, api.F32, l, api.ErrWord)
}

// TestP7_4_Formats: a format that is none comes ahead of a list that is too long, and of words that are none.
func TestP7_4_Formats(t *testing.T) {
	long := slices.Repeat([]uint64{1<<64 - 1}, longest+1)
	for _, f := range noFormats() {
		for _, l := range [][]uint64{nil, {}, {0}, {1 << 32}, {0x7FC00000, 1}, long[:longest], long} {
			sortRefused(t, f, l, api.ErrFormat)
		}
	}
}

// TestP7_4_Memory: the list that is handed in stays as it is, spare room included, and the answer is memory of its own.
func TestP7_4_Memory(t *testing.T) {
	for _, k := range tables() {
		sorted := append(k.ladder(), k.nan)
		backward := slices.Clone(sorted)
		slices.Reverse(backward)
		for _, l := range [][]uint64{sorted, backward, k.every(), {k.one}, {k.full}, {k.full, k.one}, {0, k.sign}} {
			checkMemory(t, k, l)
		}
	}
	checkMemory(t, table32(), []uint64{2, 1, 0x7FC00001, 1 << 32})
}

func checkMemory(t *testing.T, k table, l []uint64) {
	t.Helper()
	room := append(slices.Clone(l), mark, mark, mark)
	was := slices.Clone(room)
	first, _ := rank.Sort(k.f, room[:len(l)])
	kept := slices.Clone(first)
	second, _ := rank.Sort(k.f, room[:len(l)])
	if !slices.Equal(room, was) {
		t.Fatalf("Sort of %x left %x", was, room)
	}
	// What is written over one answer, its spare room too, must be felt neither by the other one nor by what was handed in.
	for i := range second[:cap(second)] {
		second[:cap(second)][i] = mark
	}
	if !slices.Equal(room, was) || !slices.Equal(first, kept) {
		t.Fatalf("Sort of %x shares memory", was)
	}
	// Nor does an answer hang on what was handed in any more.
	for i := range room {
		room[i] = mark
	}
	if !slices.Equal(first, kept) {
		t.Fatalf("Sort of %x keeps what it was handed", was)
	}
}
