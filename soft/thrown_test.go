package soft_test

import (
	"math/big"
	"testing"
)

// minus is the number with the other sign.
func minus(x *big.Float) *big.Float { return blank().Neg(x) }

// checkTwo holds sum, difference, product and quotient of two finite words, none of them a nought, against the model.
func checkTwo(t *testing.T, k table, a, b uint64) {
	t.Helper()
	x, y := k.value(a), k.value(b)
	callAdd().check(t, k, plus(x, y), a, b)
	callSub().check(t, k, plus(x, minus(y)), a, b)
	callMul().check(t, k, times(x, y), a, b)
	callDiv().checkExact(t, k.exact(x.Sign() != y.Sign(), heldQuo(x, y)), a, b)
}

func checkMulAdd(t *testing.T, k table, a, b, c uint64) {
	t.Helper()
	callMulAdd().check(t, k, plus(times(k.value(a), k.value(b)), k.value(c)), a, b, c)
}

func checkSqrt(t *testing.T, k table, a uint64) {
	t.Helper()
	callSqrt().checkExact(t, k.exact(false, heldRoot(k.value(a))), a)
}

// TestP5_1_2_3_EdgesCrossed: each edge with each other one, of both signs.
func TestP5_1_2_3_EdgesCrossed(t *testing.T) {
	for _, k := range tables() {
		for _, a := range k.signed(k.edges()) {
			for _, b := range k.edges() {
				checkTwo(t, k, a, b)
			}
		}
	}
}

// notNought is a finite word that is none, with a field about the one told.
func (k table) notNought(d *dice, field, about int) uint64 {
	w := k.word(d, field, about)
	if w%k.sign == 0 {
		return w + 1
	}
	return w
}

// TestP5_1_2_3_Thrown: words of any size, of like size, and such as come to results near both ends.
func TestP5_1_2_3_Thrown(t *testing.T) {
	d := dice(21)
	for _, k := range tables() {
		// Fields whose sum leads a product to the ends, and those that lead a quotient there.
		ends := []int{k.bias() - k.precision, k.bias(), 3 * k.bias()}
		for i := range 1500 {
			a := k.notNought(&d, k.bias(), k.bias())
			end := ends[i%len(ends)]
			checkTwo(t, k, a, k.notNought(&d, k.bias(), k.bias()))
			checkTwo(t, k, a, k.notNought(&d, k.field(a), k.precision+2))
			checkTwo(t, k, a, k.notNought(&d, end-k.field(a), 3))
			checkTwo(t, k, a, k.notNought(&d, k.field(a)+k.bias()-end, 3))
		}
	}
}

// TestP5_1_Cancel: words that are some steps apart.
func TestP5_1_Cancel(t *testing.T) {
	d := dice(22)
	for _, k := range tables() {
		for range 500 {
			a := k.word(&d, k.bias(), k.bias())%k.sign + 8
			b := min(a-8+uint64(d.below(17)), k.inf-1)
			a = min(a, k.inf-1)
			x, y := k.value(a), k.value(b)
			callAdd().check(t, k, plus(x, minus(y)), a, b|k.sign)
			callSub().check(t, k, plus(x, minus(y)), a, b)
			callSub().check(t, k, plus(y, minus(x)), a|k.sign, b|k.sign)
		}
	}
}

// TestP5_1_Noughts: a finite word and a nought of either sign.
func TestP5_1_Noughts(t *testing.T) {
	for _, k := range tables() {
		for _, w := range k.signed(k.edges()) {
			for _, zero := range []uint64{0, k.sign} {
				for _, m := range modes() {
					callAdd().tell(t, k, m, w, 0, w, zero)
					callAdd().tell(t, k, m, w, 0, zero, w)
					callSub().tell(t, k, m, w, 0, w, zero)
					callSub().tell(t, k, m, w^k.sign, 0, zero, w)
				}
			}
		}
	}
}

func TestP5_4_Thrown(t *testing.T) {
	d := dice(23)
	for _, k := range tables() {
		for _, w := range k.edges() {
			checkSqrt(t, k, w)
		}
		for range 4000 {
			checkSqrt(t, k, k.notNought(&d, k.bias(), k.bias())%k.sign)
			checkSqrt(t, k, k.notNought(&d, 0, 1)%k.sign)
		}
	}
}

// TestP5_4_Squares: squares of short numbers, and the words beside them.
func TestP5_4_Squares(t *testing.T) {
	d := dice(24)
	for _, k := range tables() {
		for range 1000 {
			root := k.word(&d, k.bias(), k.bias()/2-k.precision) % k.sign
			root -= root % (1 << (k.precision/2 + 1))
			square, _ := times(k.value(root), k.value(root)).Float64()
			w := k.bitsOf(square)
			for _, m := range modes() {
				callSqrt().tell(t, k, m, root, 0, w)
			}
			checkSqrt(t, k, w+1)
			checkSqrt(t, k, w-1)
		}
	}
}

// TestP5_5_EdgesCrossed: each of the edges, in each place.
func TestP5_5_EdgesCrossed(t *testing.T) {
	for _, k := range tables() {
		edges := k.edges()
		for i, a := range edges {
			for j, b := range edges {
				for n, c := range k.signed(edges) {
					// A third of all is enough of so many.
					if (i+j+n)%3 == 0 {
						checkMulAdd(t, k, a, b, c)
					}
				}
			}
		}
	}
}

// TestP5_5_Thrown: c of any size, about the product's size, just beside the product, and about where the product's last bits are.
func TestP5_5_Thrown(t *testing.T) {
	d := dice(25)
	for _, k := range tables() {
		for range 2000 {
			a := k.anyWord(&d)
			b := k.word(&d, 2*k.bias()-k.field(a), k.bias())
			field := k.field(a) + k.field(b) - k.bias()
			checkMulAdd(t, k, a, b, k.anyWord(&d)|1)
			checkMulAdd(t, k, a, b, k.word(&d, field, k.precision+2)|1)
			checkMulAdd(t, k, a, b, k.word(&d, field-k.precision, 2)|1)
			product, _, _ := callMul().of(k.f, 1, a, b)
			if beside := product ^ k.sign ^ uint64(d.below(3)); beside%k.sign < k.inf && beside%k.sign > 0 {
				checkMulAdd(t, k, a, b, beside)
			}
		}
	}
}
