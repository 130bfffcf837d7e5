package nat_test

import (
	"slices"
	"testing"

	"cutplane/api"
	"cutplane/nat"
)

const mark = 0xDEADBEEF

// roomy is a copy of a with marked room behind it.
func roomy(a []uint32) []uint32 {
	b := append(slices.Clone(a), mark, mark, mark)
	return b[:len(a)]
}

// whole is all that lies in a list's memory from its beginning on.
func whole(a []uint32) []uint32 { return a[:cap(a)] }

// calls is each call that answers lists, of two lists and a count.
func calls() map[string]func(a, b []uint32, n int) [][]uint32 {
	return map[string]func(a, b []uint32, n int) [][]uint32{
		"Add": func(a, b []uint32, _ int) [][]uint32 { s, _ := nat.Add(a, b); return [][]uint32{s} },
		"Sub": func(a, b []uint32, _ int) [][]uint32 { s, _ := nat.Sub(a, b); return [][]uint32{s} },
		"Mul": func(a, b []uint32, _ int) [][]uint32 { s, _ := nat.Mul(a, b); return [][]uint32{s} },
		"QuoRem": func(a, b []uint32, _ int) [][]uint32 {
			q, r, _ := nat.QuoRem(a, b)
			return [][]uint32{q, r}
		},
		"Shift": func(a, _ []uint32, n int) [][]uint32 { s, _, _ := nat.Shift(a, n); return [][]uint32{s} },
		"Root":  func(a, _ []uint32, _ int) [][]uint32 { s, _, _ := nat.Root(a); return [][]uint32{s} },
		"others": func(a, b []uint32, _ int) [][]uint32 {
			nat.May(a)
			nat.Num(a)
			nat.Cmp(a, b)
			nat.Len(a)
			nat.Low(a)
			nat.Text(a)
			return nil
		},
		"Power": func(_, _ []uint32, n int) [][]uint32 { s, _ := nat.Power(7, n); return [][]uint32{s} },
		"Of":    func(_, _ []uint32, n int) [][]uint32 { return [][]uint32{nat.Of(uint64(n))} },
		"Parse": func(_, _ []uint32, _ int) [][]uint32 {
			s, _ := nat.Parse("123456789012345678901")
			return [][]uint32{s}
		},
	}
}

func lists() [][]uint32 {
	d := dice(99)
	out := append(edges(), []uint32{0}, []uint32{1, 0}, []uint32{7, 8, 9, 0})
	for range 12 {
		out = append(out, d.number(d.below(7)))
	}
	return out
}

// TestP1_Memory: nothing that is handed in is changed or kept, spare room included, and no answer shares memory with anything.
func TestP1_Memory(t *testing.T) {
	for name, call := range calls() {
		for _, x := range lists() {
			for _, y := range lists() {
				for _, n := range []int{-40, -32, -1, 0, 1, 33} {
					checkMemory(t, name, call, x, y, n)
				}
			}
		}
	}
}

func checkMemory(t *testing.T, name string, call func(a, b []uint32, n int) [][]uint32, x, y []uint32, n int) {
	t.Helper()
	a, b := roomy(x), roomy(y)
	wasA, wasB := slices.Clone(whole(a)), slices.Clone(whole(b))
	first := call(a, b, n)
	var was [][]uint32
	for _, s := range first {
		was = append(was, slices.Clone(s))
	}
	second := call(a, b, n)
	// Each answer is written over, with its spare room; the others, and what was handed in, must not feel it.
	for i, s := range second {
		if !slices.Equal(s, was[i]) {
			t.Fatal(name, "answers two things", x, y, n)
		}
		fill(whole(s), uint32(i))
		for j := range i {
			if slices.Contains(whole(second[j]), uint32(i)+mark) {
				t.Fatal(name, "shares memory between its answers", x, y, n)
			}
		}
	}
	if !slices.Equal(whole(a), wasA) || !slices.Equal(whole(b), wasB) {
		t.Fatal(name, "changes or shares what it is handed", x, y, n)
	}
	fill(whole(a), 77)
	fill(whole(b), 78)
	for i, s := range first {
		if !slices.Equal(s, was[i]) {
			t.Fatal(name, "keeps what it is handed, or what it answered", x, y, n)
		}
	}
}

func fill(a []uint32, n uint32) {
	for i := range a {
		a[i] = mark + n
	}
}

// TestP1_Same: a list may stand in both places.
func TestP1_Same(t *testing.T) {
	for _, x := range lists() {
		if !nat.May(x) {
			continue
		}
		a := roomy(x)
		s, e := nat.Sub(a, a)
		tell(t, "Sub", s, e, nil, api.OK)
		two, e := nat.Mul(a, nat.Of(2))
		sum, f := nat.Add(a, a)
		tell(t, "Add", sum, f, two, e)
		if c, e := nat.Cmp(a, a); c != 0 || e != api.OK {
			t.Error("Cmp", c, e)
		}
		if len(a) > 0 {
			q, r, e := nat.QuoRem(a, a)
			tell(t, "quotient", q, e, []uint32{1}, api.OK)
			tell(t, "rest", r, e, nil, api.OK)
		}
	}
}

// TestExamples: the chapter's table.
func TestExamples(t *testing.T) {
	s, e := nat.Add([]uint32{top}, []uint32{1})
	tell(t, "Add", s, e, []uint32{0, 1}, api.OK)
	s, e = nat.Sub([]uint32{0, 1}, []uint32{1})
	tell(t, "Sub", s, e, []uint32{top}, api.OK)
	s, e = nat.Sub([]uint32{1}, []uint32{2})
	tell(t, "Sub", s, e, nil, api.ErrLess)
	s, _, e = nat.Shift([]uint32{5}, 32)
	tell(t, "Shift", s, e, []uint32{0, 5}, api.OK)
	s, lost, e := nat.Shift([]uint32{5}, -1)
	tell(t, "Shift", s, e, []uint32{2}, api.OK)
	s, kept, e := nat.Shift([]uint32{4}, -2)
	tell(t, "Shift", s, e, []uint32{1}, api.OK)
	if !lost || kept {
		t.Error("Shift", lost, kept)
	}
	s, e = nat.Power(10, 10)
	tell(t, "Power", s, e, []uint32{1410065408, 2}, api.OK)
	s, e = nat.Power(0, 0)
	tell(t, "Power", s, e, []uint32{1}, api.OK)
	s, e = nat.Power(2, 131072)
	tell(t, "Power", s, e, nil, api.ErrLong)
	s, e = nat.Parse("18446744073709551616")
	tell(t, "Parse", s, e, []uint32{0, 0, 1}, api.OK)
}
