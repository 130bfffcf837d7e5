package deci_test

import (
	"math"
	"math/big"
	"slices"
	"testing"

	"cutplane/api"
	"cutplane/deci"
)

const (
	bothOver  = api.Overflow | api.Inexact
	bothUnder = api.Underflow | api.Inexact
)

// table is what the chapter on words says of a format, written out here by itself.
type table struct {
	f                       api.Format
	precision, least, limit int
	sign, inf, nan, full    uint64
}

func table32() table {
	return table{api.F32, 24, -149, 128, 0x80000000, 0x7F800000, 0x7FC00000, 0xFFFFFFFF}
}

func table64() table {
	return table{api.F64, 53, -1074, 1024, 0x8000000000000000, 0x7FF0000000000000, 0x7FF8000000000000, 0xFFFFFFFFFFFFFFFF}
}

func tables() []table { return []table{table32(), table64()} }

func modes() []api.Mode {
	return []api.Mode{api.ToEven, api.ToAway, api.ToZero, api.ToUp, api.ToDown}
}

// mirror is the mode that does below nought what m does above it.
func mirror(m api.Mode) api.Mode {
	switch m {
	case api.ToUp:
		return api.ToDown
	case api.ToDown:
		return api.ToUp
	}
	return m
}

// dice is a row of numbers that look thrown, the same at each run.
type dice uint64

func (d *dice) next() uint64 {
	*d ^= *d << 13
	*d ^= *d >> 7
	*d ^= *d << 17
	return uint64(*d)
}

func (d *dice) below(n int) int { return int(d.next() % uint64(n)) }

// text is so many bytes of those told.
func (d *dice) text(bytes string, n int) string {
	text := make([]byte, n)
	for i := range text {
		text[i] = bytes[d.below(len(bytes))]
	}
	return string(text)
}

// step is the words of one exponent field; it is the least normal word, too.
func (k table) step() uint64 { return 1 << (k.precision - 1) }

// power is the word of 2^n, which is normal.
func (k table) power(n int) uint64 { return uint64(n+k.limit-1) << (k.precision - 1) }

// thrown is a finite word above nought of any field, often with long runs of one bit.
func (k table) thrown(d *dice) uint64 {
	frac := d.next() % k.step()
	switch d.below(4) {
	case 0:
		frac &= k.step() - 1<<d.below(k.precision)
	case 1:
		frac |= 1<<d.below(k.precision) - 1
	}
	fields := int(k.inf / k.step())
	return max(1, uint64(d.below(fields))*k.step()+frac)
}

// edges is finite words above nought: the least ones, about the least normal one, about each power of two, the greatest.
func (k table) edges() []uint64 {
	list := []uint64{1, 2, 3, 4, 5, 6, 7, 8, 9, k.step() / 2, k.step() - 2, k.step() - 1, k.inf - 2, k.inf - 1}
	for field := k.step(); field < k.inf; field += k.step() {
		list = append(list, field-1, field, field+1, field+k.step()/2)
	}
	return list
}

// signed is the words and those with the other sign.
func (k table) signed(words ...uint64) []uint64 {
	list := slices.Clone(words)
	for _, w := range words {
		list = append(list, w|k.sign)
	}
	return list
}

// nans is NaNs of both signs, canonical or not, the first and the last one among them.
func (k table) nans() []uint64 {
	return k.signed(k.nan, k.nan+1, k.inf+1, k.inf+2, k.nan-1, k.sign-1)
}

// special is the words that are no numbers but 0, and their plain forms.
func (k table) special() map[uint64]string {
	texts := map[uint64]string{0: "0", k.sign: "-0", k.inf: "inf", k.inf | k.sign: "-inf"}
	for _, w := range k.nans() {
		texts[w] = "nan"
	}
	return texts
}

// float is the word's float, as the library has it; each of F32 is one of F64 too.
func (k table) float(w uint64) float64 {
	if k.f == api.F32 {
		return float64(math.Float32frombits(uint32(w)))
	}
	return math.Float64frombits(w)
}

// bitsOf is the word of a float that the format has.
func (k table) bitsOf(x float64) uint64 {
	if k.f == api.F32 {
		return uint64(math.Float32bits(float32(x)))
	}
	return math.Float64bits(x)
}

// value is a finite word's value.
func (k table) value(w uint64) *big.Rat { return new(big.Rat).SetFloat64(k.float(w)) }

// parsed is what Parse answers.
type parsed struct {
	word  uint64
	flags api.Flags
	err   api.Errno
}

func parse(f api.Format, m api.Mode, s string) parsed {
	w, flags, e := deci.Parse(f, m, s)
	return parsed{w, flags, e}
}

// short is the text, or of a long one its two ends.
func short(s string) string {
	if len(s) <= 80 {
		return s
	}
	return s[:50] + " .. " + s[len(s)-25:]
}

// checkParse holds Parse against a word and flags.
func checkParse(t *testing.T, k table, m api.Mode, s string, w uint64, flags api.Flags) {
	t.Helper()
	if g := parse(k.f, m, s); g != (parsed{w, flags, api.OK}) {
		t.Fatalf("Parse, format %d, mode %d, of %q: %x flags %d error %d, not %x flags %d", k.f, m, short(s), g.word, g.flags, g.err, w, flags)
	}
}

// refuses holds Parse against an error, with zeros beside it.
func refuses(t *testing.T, f api.Format, m api.Mode, s string, e api.Errno) {
	t.Helper()
	if g := parse(f, m, s); g != (parsed{err: e}) {
		t.Fatalf("Parse, format %d, mode %d, of %q (%d bytes): %x flags %d error %d, not error %d", f, m, short(s), len(s), g.word, g.flags, g.err, e)
	}
}

// written is what a call answers that tells a text.
type written struct {
	text string
	err  api.Errno
}

func got(s string, e api.Errno) written { return written{s, e} }

// is fails the test, if not the text was told, without an error; x is what the call was handed.
func (g written) is(t *testing.T, want, name string, k table, x ...any) {
	t.Helper()
	if g != (written{want, api.OK}) {
		t.Fatalf("%s, format %d, of %x: %q error %d, not %q", name, k.f, x, g.text, g.err, want)
	}
}

// refused fails the test, if not the error was answered, and no text beside it.
func (g written) refused(t *testing.T, e api.Errno, name string, x ...any) {
	t.Helper()
	if g != (written{err: e}) {
		t.Fatalf("%s of %x: %q error %d, not error %d", name, x, g.text, g.err, e)
	}
}

func shortest(k table, w uint64) written { return got(deci.Shortest(k.f, w)) }

func exact(k table, w uint64) written { return got(deci.Exact(k.f, w)) }

func show(k table, m api.Mode, w uint64, n int) written { return got(deci.Show(k.f, m, w, n)) }
