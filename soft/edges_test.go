package soft_test

import (
	"testing"

	"cutplane/api"
)

// row is what the modes ToEven, ToAway, ToZero, ToUp, ToDown answer of words that come to a number above nought, worked out by hand.
type row struct {
	name  string
	x     []uint64
	words [5]uint64
	flags [5]api.Flags
}

func same5(f api.Flags) [5]api.Flags { return [5]api.Flags{f, f, f, f, f} }

func all5(w uint64) [5]uint64 { return [5]uint64{w, w, w, w, w} }

// over5 is what stands for a number that is too great in every mode.
func (k table) over5() [5]uint64 { return [5]uint64{k.inf, k.inf, k.inf - 1, k.inf, k.inf - 1} }

// up5 is the word w, and the next one in the mode ToUp.
func up5(w uint64) [5]uint64 { return [5]uint64{w, w, w, w + 1, w} }

// checkRows holds a call against rows; turn makes the words come to the number with the other sign, which the mirrored modes tell.
func (c call) checkRows(t *testing.T, k table, rows []row, turn func(x []uint64) []uint64) {
	t.Helper()
	for _, r := range rows {
		t.Run(r.name, func(t *testing.T) {
			for i, m := range modes() {
				c.tell(t, k, m, r.words[i], r.flags[i], r.x...)
				if turn != nil {
					c.tell(t, k, mirror(m), r.words[i]|k.sign, r.flags[i], turn(r.x)...)
				}
			}
		})
	}
}

func (k table) turnFirst(x []uint64) []uint64 { return append([]uint64{x[0] ^ k.sign}, x[1:]...) }

func (k table) turnAll(x []uint64) []uint64 {
	var list []uint64
	for _, w := range x {
		list = append(list, w^k.sign)
	}
	return list
}

// turnSum turns the product of the first two and the third one.
func (k table) turnSum(x []uint64) []uint64 { return []uint64{x[0] ^ k.sign, x[1], x[2] ^ k.sign} }

func addRows(k table) []row {
	p, one, great := k.precision, k.power(0), k.inf-1
	wide, over, inexact := k.power(p), same5(bothOver), same5(api.Inexact)
	mixed := [5]api.Flags{bothOver, bothOver, api.Inexact, bothOver, api.Inexact}
	return []row{
		{"half way, the even one below", []uint64{wide, one}, [5]uint64{wide, wide + 1, wide, wide + 1, wide}, inexact},
		{"half way, the even one above", []uint64{wide + 1, one}, [5]uint64{wide + 2, wide + 2, wide + 1, wide + 2, wide + 1}, inexact},
		{"less than half way", []uint64{wide, one - 1}, up5(wide), inexact},
		{"more than half way", []uint64{wide, one + 1}, [5]uint64{wide + 1, wide + 1, wide, wide + 1, wide}, inexact},
		{"far apart", []uint64{great - 1, 1}, up5(great - 1), inexact},
		{"far apart, of two signs", []uint64{one + 1, k.sign | 1}, [5]uint64{one + 1, one + 1, one, one + 1, one}, inexact},
		{"half a unit above the greatest", []uint64{great, k.power(k.limit - p - 1)}, k.over5(), mixed},
		{"just less than that", []uint64{great, k.power(k.limit-p-1) - 1}, [5]uint64{great, great, great, k.inf, great}, [5]api.Flags{api.Inexact, api.Inexact, api.Inexact, bothOver, api.Inexact}},
		{"2^T", []uint64{k.power(k.limit - 1), k.power(k.limit - 1)}, k.over5(), over},
		{"the greatest twice", []uint64{great, great}, k.over5(), over},
		{"the least twice", []uint64{1, 1}, all5(2), same5(0)},
		{"the greatest subnormal one and the least", []uint64{k.step() - 1, 1}, all5(k.step()), same5(0)},
		{"the least normal one less the least", []uint64{k.step(), k.sign | 1}, all5(k.step() - 1), same5(0)},
		{"two words that cancel but for the least", []uint64{2*k.step() + 1, k.sign | 2*k.step()}, all5(2), same5(0)},
		{"a nought and the least", []uint64{k.sign, 1}, all5(1), same5(0)},
	}
}

func TestP5_1_Edges(t *testing.T) {
	for _, k := range tables() {
		callAdd().checkRows(t, k, addRows(k), k.turnAll)
		var rows []row
		for _, r := range addRows(k) {
			r.x = []uint64{r.x[0], r.x[1] ^ k.sign}
			rows = append(rows, r)
		}
		callSub().checkRows(t, k, rows, k.turnAll)
	}
}

func mulRows(k table) []row {
	one, great, low := k.power(0), k.inf-1, k.step()
	half, three := k.power(-1), k.power(1)+low/2
	mid := one + low/2
	inexact, under := same5(api.Inexact), same5(bothUnder)
	return []row{
		{"half way, the even one below", []uint64{mid, one + 3}, [5]uint64{mid + 4, mid + 5, mid + 4, mid + 5, mid + 4}, inexact},
		{"half way, the even one above", []uint64{mid, one + 1}, [5]uint64{mid + 2, mid + 2, mid + 1, mid + 2, mid + 1}, inexact},
		{"just above a word", []uint64{one + 1, one + 1}, up5(one + 2), inexact},
		{"just below 4", []uint64{k.power(1) - 1, k.power(1) - 1}, up5(k.power(2) - 2), inexact},
		{"the greatest twice", []uint64{great, k.power(1)}, k.over5(), same5(bothOver)},
		{"the greatest squared", []uint64{great, great}, k.over5(), same5(bothOver)},
		{"2^T", []uint64{k.power(k.limit / 2), k.power(k.limit / 2)}, k.over5(), same5(bothOver)},
		{"just the greatest", []uint64{k.power(k.limit/2) - 1, k.power(k.limit / 2)}, all5(great), same5(0)},
		{"half of the least", []uint64{1, half}, [5]uint64{0, 1, 0, 1, 0}, under},
		{"less than half of it", []uint64{1, half - 1}, up5(0), under},
		{"more than half of it", []uint64{1, half + 1}, [5]uint64{1, 1, 0, 1, 0}, under},
		{"the least squared", []uint64{1, 1}, up5(0), under},
		{"half way among subnormal words", []uint64{3, half}, [5]uint64{2, 2, 1, 2, 1}, under},
		{"half way to the odd one", []uint64{5, half}, [5]uint64{2, 3, 2, 3, 2}, under},
		{"half of the least normal one", []uint64{low, half}, all5(low / 2), same5(0)},
		{"a finer unit below the least normal one", []uint64{low, one - 1}, [5]uint64{low, low, low - 1, low, low - 1}, under},
		{"three times a subnormal one", []uint64{low / 2, three}, all5(low + low/2), same5(0)},
	}
}

func TestP5_2_Edges(t *testing.T) {
	for _, k := range tables() {
		callMul().checkRows(t, k, mulRows(k), k.turnFirst)
	}
}

// TestP5_2_NotTiny: less than a finer unit below the least normal number a product is not tiny in the modes that come to that.
func TestP5_2_NotTiny(t *testing.T) {
	for _, k := range tables() {
		one, low := k.power(0), k.step()
		// (1 + u)(1 - u), u being the unit of 1 for both: 1 less u^2.
		x := []uint64{low + 1, one - 2}
		words := [5]uint64{low, low, low - 1, low, low - 1}
		flags := [5]api.Flags{api.Inexact, api.Inexact, bothUnder, api.Inexact, bothUnder}
		callMul().checkRows(t, k, []row{{"", x, words, flags}}, k.turnFirst)
	}
}

func divRows(k table) []row {
	one, great, low := k.power(0), k.inf-1, k.step()
	half, second, three := k.power(-1), k.power(1), k.power(1)+low/2
	inexact, under := same5(api.Inexact), same5(bothUnder)
	return []row{
		{"6 by 3", []uint64{k.power(2) + low/2, three}, all5(second), same5(0)},
		{"just below 1", []uint64{one + 1, one + 2}, [5]uint64{one - 2, one - 2, one - 2, one - 1, one - 2}, inexact},
		{"just above 1", []uint64{one + 2, one + 1}, [5]uint64{one + 1, one + 1, one, one + 1, one}, inexact},
		{"the greatest by a half", []uint64{great, half}, k.over5(), same5(bothOver)},
		{"the greatest by the least", []uint64{great, 1}, k.over5(), same5(bothOver)},
		{"1 by the least", []uint64{one, 1}, k.over5(), same5(bothOver)},
		{"the greatest by just less than 1", []uint64{great, one - 1}, k.over5(), same5(bothOver)},
		{"the greatest by just more than 1", []uint64{great, one + 1}, [5]uint64{great - 2, great - 2, great - 2, great - 1, great - 2}, inexact},
		{"half of the least", []uint64{1, second}, [5]uint64{0, 1, 0, 1, 0}, under},
		{"less than half of it", []uint64{1, second + 1}, up5(0), under},
		{"more than half of it", []uint64{1, second - 1}, [5]uint64{1, 1, 0, 1, 0}, under},
		{"the least by the greatest", []uint64{1, great}, up5(0), under},
		{"half way among subnormal words", []uint64{3, second}, [5]uint64{2, 2, 1, 2, 1}, under},
		{"half way to the odd one", []uint64{5, second}, [5]uint64{2, 3, 2, 3, 2}, under},
		{"half of the least normal one", []uint64{low, second}, all5(low / 2), same5(0)},
		{"two subnormal ones", []uint64{low - 2, low/2 - 1}, all5(second), same5(0)},
	}
}

func TestP5_3_Edges(t *testing.T) {
	for _, k := range tables() {
		callDiv().checkRows(t, k, divRows(k), k.turnFirst)
	}
}

// TestP5_3_Third: 1 by 3, worked out by hand in both formats.
func TestP5_3_Third(t *testing.T) {
	for i, k := range tables() {
		third := []uint64{0x3EAAAAAA, 0x3FD5555555555555}[i]
		near := []uint64{0x3EAAAAAB, 0x3FD5555555555555}[i]
		r := row{"", []uint64{k.power(0), k.power(1) + k.step()/2}, [5]uint64{near, near, third, third + 1, third}, same5(api.Inexact)}
		callDiv().checkRows(t, k, []row{r}, k.turnFirst)
	}
}

func sqrtRows(k table) []row {
	one, great, low := k.power(0), k.inf-1, k.step()
	return []row{
		{"9", []uint64{k.power(3) + low/8}, all5(k.power(1) + low/2), same5(0)},
		{"1", []uint64{one}, all5(one), same5(0)},
		{"just above 1", []uint64{one + 1}, up5(one), same5(api.Inexact)},
		{"just below 1", []uint64{one - 1}, [5]uint64{one - 1, one - 1, one - 1, one, one - 1}, same5(api.Inexact)},
		{"the greatest", []uint64{great}, up5(k.power(k.limit/2) - 1), same5(api.Inexact)},
		{"a square among the subnormal words", []uint64{uint64(1) << (k.least & 1)}, all5(k.power((k.least + k.least&1) / 2)), same5(0)},
		{"four times that", []uint64{uint64(4) << (k.least & 1)}, all5(k.power((k.least+k.least&1)/2 + 1)), same5(0)},
		{"the least normal one", []uint64{low}, all5(k.power((k.least + k.precision - 1) / 2)), same5(0)},
	}
}

func TestP5_4_Edges(t *testing.T) {
	for i, k := range tables() {
		callSqrt().checkRows(t, k, sqrtRows(k), nil)
		two := []uint64{0x3FB504F3, 0x3FF6A09E667F3BCC}[i]
		near := []uint64{0x3FB504F3, 0x3FF6A09E667F3BCD}[i]
		r := row{"2", []uint64{k.power(1)}, [5]uint64{near, near, two, two + 1, two}, same5(api.Inexact)}
		callSqrt().checkRows(t, k, []row{r}, nil)
	}
}

// TestP5_4_Below: what is below 0 has no root, the least in size neither.
func TestP5_4_Below(t *testing.T) {
	for _, k := range tables() {
		for _, w := range append(k.edges(), k.inf) {
			for _, m := range modes() {
				callSqrt().tell(t, k, m, k.nan, api.Invalid, w|k.sign)
			}
		}
	}
}

func mulAddRows(k table) []row {
	p, one, great, low := k.precision, k.power(0), k.inf-1, k.step()
	half, second, mid := k.power(-1), k.power(1), one+low/2
	inexact, under := same5(api.Inexact), same5(bothUnder)
	return []row{
		{"a product's rounding undone", []uint64{one + 1, one + 1, k.sign | one + 2}, all5(k.power(2 - 2*p)), same5(0)},
		{"a product's rounding undone, from above", []uint64{k.power(1) - 1, k.power(1) - 1, k.sign | k.power(2) - 2}, all5(k.power(2 - 2*p)), same5(0)},
		{"a product that is too great, brought back", []uint64{great, second, k.sign | great}, all5(great), same5(0)},
		{"a half way product", []uint64{mid, one + 3, 0}, [5]uint64{mid + 4, mid + 5, mid + 4, mid + 5, mid + 4}, inexact},
		{"that and the least", []uint64{mid, one + 3, 1}, [5]uint64{mid + 5, mid + 5, mid + 4, mid + 5, mid + 4}, inexact},
		{"that less the least", []uint64{mid, one + 3, k.sign | 1}, up5(mid + 4), inexact},
		{"half way with a product below the words", []uint64{1, half, one}, up5(one), inexact},
		{"half way as a sum", []uint64{one, one, k.power(p)}, [5]uint64{k.power(p), k.power(p) + 1, k.power(p), k.power(p) + 1, k.power(p)}, inexact},
		{"the greatest, and less than half a unit more", []uint64{k.power(k.limit - p - 1), one - 1, great}, [5]uint64{great, great, great, k.inf, great}, [5]api.Flags{api.Inexact, api.Inexact, api.Inexact, bothOver, api.Inexact}},
		{"the greatest, and half a unit more", []uint64{k.power(k.limit - p - 1), one, great}, k.over5(), [5]api.Flags{bothOver, bothOver, api.Inexact, bothOver, api.Inexact}},
		{"the greatest squared, and it", []uint64{great, great, great}, k.over5(), same5(bothOver)},
		{"the greatest squared, less it", []uint64{great, great, k.sign | great}, k.over5(), same5(bothOver)},
		{"the least squared, and a nought", []uint64{1, 1, 0}, up5(0), under},
		{"the least squared, and the other nought", []uint64{1, 1, k.sign}, up5(0), under},
		{"the least squared, and the least", []uint64{1, 1, 1}, up5(1), under},
		{"the least less its square", []uint64{k.sign | 1, 1, 1}, [5]uint64{1, 1, 0, 1, 0}, under},
		{"the least and a half of it", []uint64{1, half, 1}, [5]uint64{2, 2, 1, 2, 1}, under},
		{"twice the least and a half of it", []uint64{1, half, 2}, [5]uint64{2, 3, 2, 3, 2}, under},
		{"the least normal one less half of the least", []uint64{k.sign | 1, half, low}, [5]uint64{low, low, low - 1, low, low - 1}, under},
		{"the least normal one less a fourth of the least", []uint64{k.sign | 1, k.power(-2), low}, [5]uint64{low, low, low - 1, low, low - 1}, [5]api.Flags{api.Inexact, api.Inexact, bothUnder, api.Inexact, bothUnder}},
		{"a nought and the least", []uint64{0, great, 1}, all5(1), same5(0)},
	}
}

func TestP5_5_Edges(t *testing.T) {
	for _, k := range tables() {
		callMulAdd().checkRows(t, k, mulAddRows(k), k.turnSum)
	}
}

// TestP5_5_Nought: a product and c that come to 0.
func TestP5_5_Nought(t *testing.T) {
	for _, k := range tables() {
		three, six := k.power(1)+k.step()/2, k.power(2)+k.step()/2
		for _, x := range [][]uint64{
			{three, k.power(1), k.sign | six},
			{k.sign | three, k.power(1), six},
			{k.sign | three, k.sign | k.power(1), k.sign | six},
			{k.step(), k.power(-1), k.sign | k.step()/2},
			{k.inf - 1, k.power(0), k.sign | k.inf - 1},
			{0, three, k.sign},
			{k.sign, three, 0},
			{k.sign, k.sign, k.sign},
		} {
			for _, m := range modes() {
				callMulAdd().tell(t, k, m, k.noughtOf(m), 0, x...)
			}
		}
	}
}
