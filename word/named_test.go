package word_test

import (
	"math"
	"testing"

	"cutplane/api"
	"cutplane/word"
)

// namedCalls is each call that answers a word by its name and sign.
func namedCalls() map[string]func(api.Format, bool) (uint64, api.Errno) {
	return map[string]func(api.Format, bool) (uint64, api.Errno){
		"Zero": word.Zero, "Inf": word.Inf, "Greatest": word.Greatest, "Least": word.Least,
	}
}

func TestP3_3_Named(t *testing.T) {
	for _, c := range []struct {
		name       string
		w32, w64   uint64
		of32, of64 float64
	}{
		{"Zero", 0, 0, 0, 0},
		{"Inf", 0x7F800000, 0x7FF0000000000000, math.Inf(1), math.Inf(1)},
		{"Greatest", 0x7F7FFFFF, 0x7FEFFFFFFFFFFFFF, math.MaxFloat32, math.MaxFloat64},
		{"Least", 1, 1, math.SmallestNonzeroFloat32, math.SmallestNonzeroFloat64},
	} {
		call := namedCalls()[c.name]
		for _, k := range tables() {
			want, value := c.w32, c.of32
			if k.f == api.F64 {
				want, value = c.w64, c.of64
			}
			w, e := call(k.f, false)
			tellWord(t, c.name, 0, w, e, want, api.OK)
			if k.float(w) != value {
				t.Error(c.name, "has the value", k.float(w))
			}
			w, e = call(k.f, true)
			tellWord(t, c.name+" below nought", 0, w, e, want|k.sign, api.OK)
		}
	}
}

func TestP3_3_None(t *testing.T) {
	for _, k := range tables() {
		w, e := word.None(k.f)
		tellWord(t, "None", 0, w, e, k.none, api.OK)
	}
}

func TestP3_3_NoFormat(t *testing.T) {
	for _, f := range noFormats() {
		for name, call := range namedCalls() {
			for _, neg := range []bool{false, true} {
				w, e := call(f, neg)
				tellWord(t, name+" in no format", uint64(f), w, e, 0, api.ErrFormat)
			}
		}
		w, e := word.None(f)
		tellWord(t, "None in no format", uint64(f), w, e, 0, api.ErrFormat)
	}
}
