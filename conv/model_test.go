package conv_test

import (
	"math/big"

	"cutplane/api"
)

// blank has room for all exact numbers of these tests.
func blank() *big.Float { return new(big.Float).SetPrec(8000) }

// exactly looks that the library has not rounded.
func exactly(x *big.Float) *big.Float {
	if x.Acc() != big.Exact {
		panic("the library's number is too short")
	}
	return x
}

func pow(n int) *big.Float { return blank().SetMantExp(big.NewFloat(1), n) }

func plus(a, b *big.Float) *big.Float { return exactly(blank().Add(a, b)) }

func minus(a, b *big.Float) *big.Float { return exactly(blank().Sub(a, b)) }

// scaled is x times 2^n.
func scaled(x *big.Float, n int) *big.Float { return exactly(blank().SetMantExp(x, n)) }

// bigMode is the library's name of a mode.
func bigMode(m api.Mode) big.RoundingMode {
	switch m {
	case api.ToAway:
		return big.ToNearestAway
	case api.ToZero:
		return big.ToZero
	case api.ToUp:
		return big.ToPositiveInf
	case api.ToDown:
		return big.ToNegativeInf
	}
	return big.ToNearestEven
}

// short is x with so many bits, as the library rounds it.
func short(x *big.Float, bits int, m api.Mode) *big.Float {
	return new(big.Float).SetMode(bigMode(m)).SetPrec(uint(bits)).Set(x)
}

// rounded is layer 4's word and flags of a number, which is not nought, by the library's way to round to so many bits.
func (k table) rounded(x *big.Float, m api.Mode) (uint64, api.Flags) {
	if x.Sign() < 0 {
		w, flags := k.rounded(blank().Neg(x), mirror(m))
		return w | k.sign, flags
	}
	fine := short(x, k.precision, m)
	taken, normal := fine, pow(k.least+k.precision-1)
	if x.Cmp(normal) < 0 {
		// Beside so great a power of two the last of the bits is the least word's.
		beside := pow(k.least + k.precision)
		taken = minus(short(plus(x, beside), k.precision+1, m), beside)
	}
	switch {
	case taken.Cmp(pow(k.limit)) >= 0 && (m == api.ToZero || m == api.ToDown):
		return k.inf - 1, bothOver
	case taken.Cmp(pow(k.limit)) >= 0:
		return k.inf, bothOver
	case taken.Cmp(x) == 0:
		return k.wordOf(taken), 0
	case fine.Cmp(normal) < 0:
		return k.wordOf(taken), bothUnder
	}
	return k.wordOf(taken), api.Inexact
}

// wordOf is the word of a number that the format has.
func (k table) wordOf(x *big.Float) uint64 {
	y, acc := x.Float64()
	if acc != big.Exact {
		panic("no word has the model's number")
	}
	return k.bitsOf(y)
}

// whole is a number that is whole, as the library's whole number.
func whole(x *big.Float) *big.Int {
	n, acc := x.Int(nil)
	if acc != big.Exact {
		panic("the model's number is not whole")
	}
	return n
}

// remainder is a less the whole multiple of b, which is not nought, that is nearest to it, of two the even one; it counts in a unit that is no coarser than the last bits of both.
func (k table) remainder(a, b *big.Float) *big.Float {
	x, y := whole(scaled(a, -k.least)), whole(scaled(b, -k.least))
	y.Abs(y) // The multiples of b are those of b with the other sign.
	two := big.NewInt(2)
	// The number is the floor of x / y + 1/2; half way that is the upper one, be it odd or even.
	above := new(big.Int).Add(new(big.Int).Mul(two, x), y)
	n, rest := new(big.Int).DivMod(above, new(big.Int).Mul(two, y), new(big.Int))
	if rest.Sign() == 0 && n.Bit(0) == 1 {
		n.Sub(n, big.NewInt(1))
	}
	left := new(big.Int).Sub(x, n.Mul(n, y))
	return scaled(exactly(blank().SetInt(left)), k.least)
}
