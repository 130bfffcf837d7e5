package round_test

import (
	"math/big"
	"slices"
	"testing"

	"cutplane/api"
	"cutplane/dyad"
	"cutplane/round"
	"cutplane/word"
)

// calls is each call that is handed numbers; Round and Root look at the first one alone.
func calls() map[string]func(f api.Format, m api.Mode, a, b api.Dyad) (uint64, api.Flags, api.Errno) {
	return map[string]func(f api.Format, m api.Mode, a, b api.Dyad) (uint64, api.Flags, api.Errno){
		"Round": func(f api.Format, m api.Mode, a, _ api.Dyad) (uint64, api.Flags, api.Errno) {
			return round.Round(f, m, a)
		},
		"Root": func(f api.Format, m api.Mode, a, _ api.Dyad) (uint64, api.Flags, api.Errno) {
			return round.Root(f, m, a)
		},
		"Quo": round.Quo,
	}
}

// goodDyads is numbers of each sign.
func goodDyads() []api.Dyad {
	return []api.Dyad{{}, num(1, 0), num(-3, 7), num(1, api.MaxExp), num(-5, -api.MaxExp)}
}

// TestP1_Errors: a format that is none comes first, then a mode, then numbers that may not be, whatever else is wrong.
func TestP1_Errors(t *testing.T) {
	firsts := append(goodDyads(), wrongDyads()...)
	for name, call := range calls() {
		for _, a := range firsts {
			for _, b := range []api.Dyad{{}, num(1, 0), num(-1, 3), {Exp: 1}, {Mag: []uint32{2}}} {
				for _, f := range noFormats() {
					for _, m := range []api.Mode{0, 1, 3, 5, 6, 255} {
						w, flags, e := call(f, m, a, b)
						refused(t, name+" in no format", w, flags, e, api.ErrFormat)
					}
				}
				for _, k := range tables() {
					for _, m := range noModes() {
						w, flags, e := call(k.f, m, a, b)
						refused(t, name+" in no mode", w, flags, e, api.ErrMode)
					}
				}
			}
		}
	}
}

// TestP1_WrongNumbers: ErrArg comes ahead of ErrZero and ErrLess.
func TestP1_WrongNumbers(t *testing.T) {
	for _, k := range tables() {
		for _, m := range modes() {
			for _, bad := range wrongDyads() {
				w, flags, e := round.Round(k.f, m, bad)
				refused(t, "Round", w, flags, e, api.ErrArg)
				w, flags, e = round.Root(k.f, m, bad)
				refused(t, "Root", w, flags, e, api.ErrArg)
				for _, other := range append(goodDyads(), bad) {
					w, flags, e = round.Quo(k.f, m, bad, other)
					refused(t, "Quo, the first one wrong,", w, flags, e, api.ErrArg)
					w, flags, e = round.Quo(k.f, m, other, bad)
					refused(t, "Quo, the second one wrong,", w, flags, e, api.ErrArg)
				}
			}
		}
	}
}

func TestP4_2_ZeroAndLess(t *testing.T) {
	for _, k := range tables() {
		for _, m := range modes() {
			for _, a := range goodDyads() {
				w, flags, e := round.Quo(k.f, m, a, api.Dyad{})
				refused(t, "Quo by nought", w, flags, e, api.ErrZero)
			}
			for _, d := range []api.Dyad{num(-1, 0), num(-4, 0), num(-1, -api.MaxExp), num(-1, api.MaxExp)} {
				w, flags, e := round.Root(k.f, m, d)
				refused(t, "Root below nought", w, flags, e, api.ErrLess)
			}
		}
	}
}

// TestP1_Memory: what is handed in is not changed, spare room included, and a second call answers the same.
func TestP1_Memory(t *testing.T) {
	const mark = 0xDEADBEEF
	roomy := func(d api.Dyad) (api.Dyad, []uint32) {
		room := append(slices.Clone(d.Mag), mark, mark)
		d.Mag = room[:len(d.Mag)]
		return d, room
	}
	for name, call := range calls() {
		for _, x := range []api.Dyad{{}, num(5, 3), num(1, -1075), form(plus(pow(500), 1), -300), form(plus(pow(70), 1), 1000)} {
			for _, y := range []api.Dyad{num(3, 0), num(-9, 40), form(less(pow(3000), 1), -2500)} {
				a, roomA := roomy(x)
				b, roomB := roomy(y)
				wasA, wasB := slices.Clone(roomA), slices.Clone(roomB)
				w, flags, e := call(api.F64, api.ToEven, a, b)
				w2, flags2, e2 := call(api.F64, api.ToEven, a, b)
				if w != w2 || flags != flags2 || e != e2 || e != api.OK {
					t.Errorf("%s answers %x %d %d, then %x %d %d", name, w, flags, e, w2, flags2, e2)
				}
				if !slices.Equal(roomA, wasA) || !slices.Equal(roomB, wasB) {
					t.Error(name, "changes what it is handed")
				}
			}
		}
	}
}

// valueOf is a word's value, 2^T standing for what is infinite.
func valueOf(k table, w uint64) api.Dyad {
	switch w {
	case k.inf:
		return num(1, k.limit)
	case k.inf | k.sign:
		return num(-1, k.limit)
	}
	d, _ := word.Value(k.f, w)
	return d
}

func compare(a, b api.Dyad) int {
	c, _ := dyad.Cmp(a, b)
	return c
}

// thrownDyad is a number of any sign within the format's reach.
func thrownDyad(d *dice, k table) api.Dyad {
	n := signed(d.wide(130), d.below(2) == 0)
	return form(n, k.least-4+d.below(k.limit-k.least+3)-n.BitLen())
}

// TestFollowsBetween: in ToDown and ToUp the number lies between the words, and no word between these; the other modes tell one of both.
func TestFollowsBetween(t *testing.T) {
	d := dice(50)
	for _, k := range tables() {
		for range 4000 {
			x := thrownDyad(&d, k)
			down, _, _ := round.Round(k.f, api.ToDown, x)
			up, _, _ := round.Round(k.f, api.ToUp, x)
			if compare(valueOf(k, down), x) > 0 || compare(valueOf(k, up), x) < 0 {
				t.Fatalf("%v does not lie between %x and %x", x, down, up)
			}
			if next, _ := word.Up(k.f, down); down != up && next != up && !(next == k.sign && up == 0) {
				t.Fatalf("%v: a word lies between %x and %x", x, down, up)
			}
			for _, m := range modes() {
				if w, _, _ := round.Round(k.f, m, x); w != down && w != up {
					t.Fatalf("%v, mode %d: %x, neither %x nor %x", x, m, w, down, up)
				}
			}
		}
	}
}

// TestFollowsNearest: in the modes to the nearest no neighbour of the word is nearer.
func TestFollowsNearest(t *testing.T) {
	d := dice(51)
	away := func(x, y api.Dyad) api.Dyad {
		s, _ := dyad.Sub(x, y)
		s, _ = dyad.Abs(s)
		return s
	}
	for _, k := range tables() {
		for range 4000 {
			x := thrownDyad(&d, k)
			for _, m := range []api.Mode{api.ToEven, api.ToAway} {
				w, _, _ := round.Round(k.f, m, x)
				for _, step := range []func(api.Format, uint64) (uint64, api.Errno){word.Up, word.Down} {
					other, e := step(k.f, w)
					if e == api.OK && compare(away(x, valueOf(k, other)), away(x, valueOf(k, w))) < 0 {
						t.Fatalf("%x is nearer to %v than %x, mode %d", other, x, w, m)
					}
				}
			}
		}
	}
}

// TestFollowsOrder: a greater number is never rounded to a lesser one; and the other sign's word has the same flags.
func TestFollowsOrder(t *testing.T) {
	d := dice(52)
	for _, k := range tables() {
		for range 4000 {
			x, y := thrownDyad(&d, k), thrownDyad(&d, k)
			if d.below(2) == 0 {
				step := form(signed(big.NewInt(1), d.below(2) == 0), x.Exp-d.below(3)+len(x.Mag)*d.below(32))
				y, _ = dyad.Add(x, step)
			}
			for _, m := range modes() {
				v, flags, _ := round.Round(k.f, m, x)
				w, _, _ := round.Round(k.f, m, y)
				if c := compare(x, y); c*compare(valueOf(k, v), valueOf(k, w)) < 0 {
					t.Fatalf("%v is rounded to %x, %v to %x, mode %d", x, v, y, w, m)
				}
				got, gotFlags, e := round.Round(k.f, mirror(m), minus(x))
				tell(t, "Round of the other sign", k, m, x, got, gotFlags, e, v^k.sign, flags)
			}
		}
	}
}

// TestExamples: the chapter's table.
func TestExamples(t *testing.T) {
	f32, f64 := tables()[0], tables()[1]
	below := func(top, out int) api.Dyad { return form(less(pow(top-out), 1), out) }
	edge := form(less(new(big.Int).Lsh(less(pow(25), 1), 103), 1), 0)
	for _, c := range []struct {
		k     table
		m     api.Mode
		d     api.Dyad
		w     uint64
		flags api.Flags
	}{
		{f32, api.ToEven, num(1<<24+1, 0), 0x4B800000, api.Inexact},
		{f32, api.ToAway, num(1<<24+1, 0), 0x4B800001, api.Inexact},
		{f32, api.ToDown, num(1<<24+1, 0), 0x4B800000, api.Inexact},
		{f32, api.ToEven, num(1<<24+3, 0), 0x4B800002, api.Inexact},
		{f32, api.ToEven, num(1, 128), 0x7F800000, bothOver},
		{f32, api.ToZero, num(1, 128), 0x7F7FFFFF, bothOver},
		{f32, api.ToDown, num(1, 128), 0x7F7FFFFF, bothOver},
		{f32, api.ToEven, below(128, 103), 0x7F800000, bothOver},
		{f32, api.ToEven, edge, 0x7F7FFFFF, api.Inexact},
		{f64, api.ToEven, num(1, -1075), 0, bothUnder},
		{f64, api.ToAway, num(1, -1075), 1, bothUnder},
		{f64, api.ToUp, num(-1, -1075), 1 << 63, bothUnder},
		{f64, api.ToEven, num(1, -1074), 1, 0},
		{f64, api.ToEven, below(-1022, -1076), 1 << 52, api.Inexact},
		{f64, api.ToZero, below(-1022, -1076), 1<<52 - 1, bothUnder},
	} {
		w, flags, e := round.Round(c.k.f, c.m, c.d)
		tell(t, "Round", c.k, c.m, c.d, w, flags, e, c.w, c.flags)
	}
	w, flags, e := round.Quo(api.F32, api.ToEven, num(1, 0), num(3, 0))
	tell(t, "Quo", f32, api.ToEven, "1, 3", w, flags, e, 0x3EAAAAAB, api.Inexact)
	w, flags, e = round.Quo(api.F32, api.ToEven, num(1, 0), api.Dyad{})
	refused(t, "Quo of 1, 0", w, flags, e, api.ErrZero)
	w, flags, e = round.Root(api.F64, api.ToEven, num(2, 0))
	tell(t, "Root", f64, api.ToEven, 2, w, flags, e, 0x3FF6A09E667F3BCD, api.Inexact)
	w, flags, e = round.Root(api.F64, api.ToEven, num(9, 0))
	tell(t, "Root", f64, api.ToEven, 9, w, flags, e, 0x4008000000000000, 0)
	w, flags, e = round.Root(api.F64, api.ToEven, num(-1, 0))
	refused(t, "Root of -1", w, flags, e, api.ErrLess)
}
