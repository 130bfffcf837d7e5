package dyad_test

import (
	"slices"
	"testing"

	"cutplane/api"
	"cutplane/dyad"
)

const mark = 0xDEADBEEF

// roomy is d with marked room behind its digits.
func roomy(d api.Dyad) api.Dyad {
	b := append(slices.Clone(d.Mag), mark, mark, mark)
	d.Mag = b[:len(d.Mag)]
	return d
}

// whole is all that lies in the digits' memory from its beginning on.
func whole(d api.Dyad) []uint32 { return d.Mag[:cap(d.Mag)] }

func fill(a []uint32, n uint32) {
	for i := range a {
		a[i] = mark + n
	}
}

// calls is each call that answers a number, of two numbers and a count.
func calls() map[string]func(a, b api.Dyad, n int) api.Dyad {
	return map[string]func(a, b api.Dyad, n int) api.Dyad{
		"Make":  func(a, _ api.Dyad, n int) api.Dyad { d, _ := dyad.Make(a.Neg, a.Mag, n); return d },
		"Int":   func(_, _ api.Dyad, n int) api.Dyad { return dyad.Int(int64(n)) },
		"Neg":   func(a, _ api.Dyad, _ int) api.Dyad { d, _ := dyad.Neg(a); return d },
		"Abs":   func(a, _ api.Dyad, _ int) api.Dyad { d, _ := dyad.Abs(a); return d },
		"Add":   func(a, b api.Dyad, _ int) api.Dyad { d, _ := dyad.Add(a, b); return d },
		"Sub":   func(a, b api.Dyad, _ int) api.Dyad { d, _ := dyad.Sub(a, b); return d },
		"Mul":   func(a, b api.Dyad, _ int) api.Dyad { d, _ := dyad.Mul(a, b); return d },
		"Shift": func(a, _ api.Dyad, n int) api.Dyad { d, _ := dyad.Shift(a, n); return d },
		"Floor": func(a, _ api.Dyad, _ int) api.Dyad { d, _ := dyad.Floor(a); return d },
		"Cut":   func(a, _ api.Dyad, n int) api.Dyad { d, _, _ := dyad.Cut(a, n); return d },
		"Quo":   func(a, b api.Dyad, n int) api.Dyad { d, _, _ := dyad.Quo(a, b, n); return d },
		"Root":  func(a, _ api.Dyad, n int) api.Dyad { d, _, _ := dyad.Root(a, n); return d },
		"others": func(a, b api.Dyad, _ int) api.Dyad {
			dyad.May(a)
			dyad.Int64(a)
			dyad.Sign(a)
			dyad.Top(a)
			dyad.Cmp(a, b)
			return api.Dyad{}
		},
	}
}

func numbers() []api.Dyad {
	d := dice(31)
	list := []api.Dyad{{}, num(1, 0), num(-1, 0), num(3, 1), num(top, 32), num(1, far), num(-5, -far), {Mag: []uint32{2}}, {Neg: true}, {Mag: []uint32{1, 0}}}
	for range 12 {
		list = append(list, d.number(6, 70))
	}
	return list
}

// TestP1_Memory: nothing that is handed in is changed or kept, spare room included, and no answer shares memory with anything.
func TestP1_Memory(t *testing.T) {
	for name, call := range calls() {
		for _, x := range numbers() {
			for _, y := range numbers() {
				for _, n := range []int{-40, -1, 0, 1, 33, 200, far} {
					checkMemory(t, name, call, x, y, n)
				}
			}
		}
	}
}

func checkMemory(t *testing.T, name string, call func(a, b api.Dyad, n int) api.Dyad, x, y api.Dyad, n int) {
	t.Helper()
	a, b := roomy(x), roomy(y)
	wasA, wasB := slices.Clone(whole(a)), slices.Clone(whole(b))
	first := call(a, b, n)
	was := slices.Clone(first.Mag)
	second := call(a, b, n)
	if !same(first, second) {
		t.Fatal(name, "answers two things of", show(x), show(y), n)
	}
	fill(whole(second), 1)
	if !slices.Equal(whole(a), wasA) || !slices.Equal(whole(b), wasB) {
		t.Fatal(name, "changes or shares what it is handed:", show(x), show(y), n)
	}
	fill(whole(a), 2)
	fill(whole(b), 3)
	if !slices.Equal(first.Mag, was) {
		t.Fatal(name, "keeps what it is handed, or what it answered:", show(x), show(y), n)
	}
	if !dyad.May(first) {
		t.Fatal(name, "answers what may not be:", show(first))
	}
}

// TestP1_Same: a number may stand in both places.
func TestP1_Same(t *testing.T) {
	for _, x := range edges() {
		a := roomy(x)
		got, e := dyad.Sub(a, a)
		tell(t, "Sub", got, e, api.Dyad{}, api.OK)
		if c, e := dyad.Cmp(a, a); c != 0 || e != api.OK {
			t.Error("Cmp of a number and itself", c, e)
		}
		if len(a.Mag) > 0 {
			q, lost, e := dyad.Quo(a, a, 9)
			tellCut(t, "Quo", q, lost, e, num(1, 0), false, api.OK)
		}
	}
}

// TestFollows: what the chapter says follows from the promises.
func TestFollows(t *testing.T) {
	d := dice(32)
	for range 500 {
		a, b, c := d.number(4, 60), d.number(4, 60), d.number(4, 60)
		ab, _ := dyad.Add(a, b)
		bc, _ := dyad.Add(b, c)
		left, e := dyad.Add(ab, c)
		right, f := dyad.Add(a, bc)
		tell(t, "a sum grouped otherwise", left, e, right, f)
		ab, _ = dyad.Mul(a, b)
		bc, _ = dyad.Mul(b, c)
		left, e = dyad.Mul(ab, c)
		right, f = dyad.Mul(bc, a)
		tell(t, "a product grouped otherwise", left, e, right, f)
		gap, _ := dyad.Sub(a, b)
		if at, _ := dyad.Cmp(a, b); at != dyad.Sign(gap) {
			t.Fatal("a difference has another sign than Cmp tells", show(a), show(b))
		}
	}
}

// TestExamples: the chapter's table.
func TestExamples(t *testing.T) {
	got, e := dyad.Make(false, []uint32{12}, 5)
	tell(t, "Make", got, e, api.Dyad{Mag: []uint32{3}, Exp: 7}, api.OK)
	got, e = dyad.Make(true, nil, 9)
	tell(t, "Make", got, e, api.Dyad{}, api.OK)
	got, e = dyad.Make(false, []uint32{2}, greatInt)
	tell(t, "Make", got, e, api.Dyad{}, api.ErrRange)
	got, e = dyad.Add(num(3, -2), num(1, -2))
	tell(t, "Add", got, e, num(1, 0), api.OK)
	got, e = dyad.Floor(num(-1, -1))
	tell(t, "Floor", got, e, num(-1, 0), api.OK)
	got, e = dyad.Floor(num(7, -1))
	tell(t, "Floor", got, e, num(3, 0), api.OK)
}
