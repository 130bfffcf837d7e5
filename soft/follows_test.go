package soft_test

import (
	"math"
	"testing"

	"cutplane/api"
	"cutplane/soft"
)

// isNaN tells whether the word is one.
func (k table) isNaN(w uint64) bool { return w%k.sign > k.inf }

// everyWord is words of each kind.
func (k table) everyWord() []uint64 {
	list := append(k.signed(k.edges()), k.nans()...)
	return append(list, 0, k.sign, k.inf, k.inf|k.sign)
}

// likeGo fails the test, if the call does not answer Go's word in the mode ToEven; each NaN of Go's stands for the canonical one.
func (c call) likeGo(t *testing.T, k table, want uint64, x ...uint64) {
	t.Helper()
	if k.isNaN(want) {
		want = k.nan
	}
	if w, _, e := c.of(k.f, api.ToEven, x...); w != want || e != api.OK {
		t.Fatalf("%s, format %d, of %x: %x error %d, Go has %x", c.name, k.f, x, w, e, want)
	}
}

func likeGo32(t *testing.T, a, b uint64) {
	t.Helper()
	k := tables()[0]
	x, y := math.Float32frombits(uint32(a)), math.Float32frombits(uint32(b))
	bits := func(x float32) uint64 { return uint64(math.Float32bits(x)) }
	callAdd().likeGo(t, k, bits(x+y), a, b)
	callSub().likeGo(t, k, bits(x-y), a, b)
	callMul().likeGo(t, k, bits(x*y), a, b)
	callDiv().likeGo(t, k, bits(x/y), a, b)
	callSqrt().likeGo(t, k, bits(float32(math.Sqrt(float64(x)))), a)
}

func likeGo64(t *testing.T, a, b, c uint64) {
	t.Helper()
	k := tables()[1]
	x, y, z := math.Float64frombits(a), math.Float64frombits(b), math.Float64frombits(c)
	callAdd().likeGo(t, k, math.Float64bits(x+y), a, b)
	callSub().likeGo(t, k, math.Float64bits(x-y), a, b)
	callMul().likeGo(t, k, math.Float64bits(x*y), a, b)
	callDiv().likeGo(t, k, math.Float64bits(x/y), a, b)
	callSqrt().likeGo(t, k, math.Float64bits(math.Sqrt(x)), a)
	callMulAdd().likeGo(t, k, math.Float64bits(math.FMA(x, y, z)), a, b, c)
}

// TestFollowsGo: in the mode ToEven each operation is what Go's own does.
func TestFollowsGo(t *testing.T) {
	for _, a := range tables()[0].everyWord() {
		for _, b := range tables()[0].everyWord() {
			likeGo32(t, a, b)
		}
	}
	words := tables()[1].everyWord()
	for i, a := range words {
		for j, b := range words {
			likeGo64(t, a, b, words[(i*7+j*3)%len(words)])
		}
	}
	d := dice(31)
	for range 10000 {
		likeGo32(t, d.next()>>32, d.next()>>32)
		likeGo64(t, d.next(), d.next(), d.next())
		k := tables()[1]
		a := k.anyWord(&d)
		likeGo64(t, a, k.word(&d, k.field(a), 60), k.word(&d, k.field(a), 60))
	}
}

// TestFollowsOrder: sum and product don't hang on the order of both.
func TestFollowsOrder(t *testing.T) {
	for _, k := range tables() {
		for _, a := range k.everyWord() {
			for _, b := range k.everyWord() {
				for _, m := range modes() {
					w, flags, _ := soft.Add(k.f, m, a, b)
					callAdd().tell(t, k, m, w, flags, b, a)
					w, flags, _ = soft.Mul(k.f, m, a, b)
					callMul().tell(t, k, m, w, flags, b, a)
					w, flags, _ = soft.MulAdd(k.f, m, a, b, k.power(0))
					callMulAdd().tell(t, k, m, w, flags, b, a, k.power(0))
				}
			}
		}
	}
}

// TestP5_1_Turned: Sub is Add of a and b with the other sign.
func TestP5_1_Turned(t *testing.T) {
	for _, k := range tables() {
		for _, a := range k.everyWord() {
			for _, b := range k.everyWord() {
				for _, m := range modes() {
					w, flags, _ := soft.Add(k.f, m, a, b^k.sign)
					callSub().tell(t, k, m, w, flags, a, b)
				}
			}
		}
	}
}

// TestFollowsDifference: where two numbers of one sign are at most twice as great as each other, their difference is exact.
func TestFollowsDifference(t *testing.T) {
	d := dice(32)
	for _, k := range tables() {
		for range 3000 {
			a := k.word(&d, k.bias(), k.bias()-2)%k.sign + k.step()
			b := min(a-k.step()+d.next()%(2*k.step()+1), k.inf-1)
			for _, m := range modes() {
				if _, flags, e := soft.Sub(k.f, m, a, b); flags != 0 || e != api.OK {
					t.Fatalf("%x less %x, mode %d: flags %d error %d", a, b, m, flags, e)
				}
			}
		}
	}
}

// TestFollowsRest: six operations find what of a sum was rounded away, and both together are the sum.
func TestFollowsRest(t *testing.T) {
	d := dice(33)
	for _, k := range tables() {
		do := func(of two, a, b uint64) uint64 {
			w, _, _ := of(k.f, api.ToEven, a, b)
			return w
		}
		for range 1000 {
			a := k.word(&d, k.bias(), k.bias()-2)
			b := k.word(&d, k.field(a), k.precision)
			sum := do(soft.Add, a, b)
			if sum%k.sign >= k.inf {
				continue
			}
			partB := do(soft.Sub, sum, a)
			partA := do(soft.Sub, sum, partB)
			rest := do(soft.Add, do(soft.Sub, a, partA), do(soft.Sub, b, partB))
			if plus(k.value(sum), k.value(rest)).Cmp(plus(k.value(a), k.value(b))) != 0 {
				t.Fatalf("%x and %x: %x and %x are not the sum", a, b, sum, rest)
			}
		}
	}
}

// TestFollowsProduct: what was rounded away of a product is found by one operation, exactly, if it is not too small.
func TestFollowsProduct(t *testing.T) {
	d := dice(34)
	for _, k := range tables() {
		for range 1000 {
			a := k.word(&d, k.bias(), k.bias()/4)
			b := k.word(&d, k.bias(), k.bias()/4)
			product, _, _ := soft.Mul(k.f, api.ToEven, a, b)
			rest, flags, _ := soft.MulAdd(k.f, api.ToEven, a, b, product^k.sign)
			if flags != 0 || plus(k.value(product), k.value(rest)).Cmp(times(k.value(a), k.value(b))) != 0 {
				t.Fatalf("%x times %x: %x and %x (flags %d) are not the product", a, b, product, rest, flags)
			}
		}
	}
}

// TestFollowsQuotient: what is left of the dividend beside quotient times divisor is a word, if it is not too small.
func TestFollowsQuotient(t *testing.T) {
	d := dice(36)
	for _, k := range tables() {
		for range 1000 {
			a := k.word(&d, k.bias(), k.bias()/4)
			b := k.word(&d, k.bias(), k.bias()/4)
			quotient, _, _ := soft.Div(k.f, api.ToEven, a, b)
			rest, flags, _ := soft.MulAdd(k.f, api.ToEven, quotient^k.sign, b, a)
			if flags != 0 || plus(times(k.value(quotient), k.value(b)), k.value(rest)).Cmp(k.value(a)) != 0 {
				t.Fatalf("%x by %x: %x times that and %x (flags %d) are not the dividend", a, b, quotient, rest, flags)
			}
		}
	}
}

// TestFollowsModes: ToDown and ToUp are one word or neighbours, and each other mode tells one of both.
func TestFollowsModes(t *testing.T) {
	d := dice(35)
	for _, c := range calls() {
		for _, k := range tables() {
			for range 500 {
				a := k.notNought(&d, k.bias(), k.bias()) % k.sign
				x := []uint64{a, k.notNought(&d, k.bias(), k.bias()), k.notNought(&d, k.field(a), 70)}
				down, _, _ := c.of(k.f, api.ToDown, x...)
				up, _, _ := c.of(k.f, api.ToUp, x...)
				if steps := k.steps(up) - k.steps(down); steps != 0 && steps != 1 {
					t.Fatalf("%s of %x: %x and %x are %d steps apart", c.name, x, down, up, steps)
				}
				for _, m := range modes() {
					if w, _, _ := c.of(k.f, m, x...); w != down && w != up {
						t.Fatalf("%s of %x, mode %d: %x, neither %x nor %x", c.name, x, m, w, down, up)
					}
				}
			}
		}
	}
}

// steps is how many words a word is above nought.
func (k table) steps(w uint64) int64 {
	if w >= k.sign {
		return -int64(w % k.sign)
	}
	return int64(w)
}
