package soft

import (
	"cutplane/api"
	"cutplane/dyad"
	"cutplane/round"
)

func (w way) sum(x []operand) (uint64, api.Flags, api.Errno) {
	a, b := x[0], x[1]
	switch {
	case every(api.Infinite, a, b) && a.neg != b.neg:
		return w.none(api.Invalid)
	case some(api.Infinite, a):
		return a.itself()
	case some(api.Infinite, b):
		return b.itself()
	case every(api.Nought, a, b) && a.neg == b.neg:
		return a.itself()
	}
	return w.rounded(dyad.Add(a.value, b.value))
}

func (w way) difference(x []operand) (uint64, api.Flags, api.Errno) {
	return w.sum([]operand{x[0], w.turned(x[1])})
}

func (w way) product(x []operand) (uint64, api.Flags, api.Errno) {
	a, b := x[0], x[1]
	switch neg := signOfTwo(a, b); {
	case some(api.Infinite, a, b) && some(api.Nought, a, b):
		return w.none(api.Invalid)
	case some(api.Infinite, a, b):
		return w.infinite(neg, 0)
	case some(api.Nought, a, b):
		return w.nought(neg)
	}
	return w.rounded(dyad.Mul(a.value, b.value))
}

func (w way) quotient(x []operand) (uint64, api.Flags, api.Errno) {
	a, b := x[0], x[1]
	switch neg := signOfTwo(a, b); {
	case every(api.Nought, a, b), every(api.Infinite, a, b):
		return w.none(api.Invalid)
	case some(api.Infinite, a):
		return w.infinite(neg, 0)
	case some(api.Infinite, b):
		return w.nought(neg)
	case some(api.Nought, b):
		return w.infinite(neg, api.DivZero)
	case some(api.Nought, a):
		return w.nought(neg)
	}
	return round.Quo(w.format, w.mode, a.value, b.value)
}

func (w way) root(x []operand) (uint64, api.Flags, api.Errno) {
	a := x[0]
	switch {
	case some(api.Nought, a):
		return a.itself()
	case a.neg:
		return w.none(api.Invalid)
	case some(api.Infinite, a):
		return a.itself()
	}
	return round.Root(w.format, w.mode, a.value)
}

func (w way) productAndSum(x []operand) (uint64, api.Flags, api.Errno) {
	a, b, c := x[0], x[1], x[2]
	switch neg := signOfTwo(a, b); {
	case some(api.Infinite, a, b) && some(api.Nought, a, b):
		return w.none(api.Invalid)
	case some(api.Infinite, a, b) && some(api.Infinite, c) && neg != c.neg:
		return w.none(api.Invalid)
	case some(api.Infinite, a, b):
		return w.infinite(neg, 0)
	case some(api.Infinite, c):
		return c.itself()
	case some(api.Nought, a, b) && some(api.Nought, c) && neg == c.neg:
		return c.itself()
	}
	product, e := dyad.Mul(a.value, b.value)
	if e != api.OK {
		return 0, 0, e
	}
	return w.rounded(dyad.Add(product, c.value))
}
