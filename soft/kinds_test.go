package soft_test

import (
	"testing"

	"cutplane/api"
)

// The kinds of words, each by a letter: I, i infinite; O, o noughts; X, x other finite words; N NaNs. The small letters have the sign 1.
const kinds = "IiOoXxN"

// of is words of a kind.
func (k table) of(kind byte) []uint64 {
	switch kind {
	case 'I':
		return []uint64{k.inf}
	case 'i':
		return []uint64{k.inf | k.sign}
	case 'O':
		return []uint64{0}
	case 'o':
		return []uint64{k.sign}
	case 'X':
		return []uint64{1, k.step() - 1, k.step(), k.power(0), k.inf - 1}
	case 'x':
		return []uint64{k.sign | 1, k.sign | k.step() - 1, k.sign | k.step(), k.sign | k.power(0), k.sign | k.inf - 1}
	}
	return k.nans()
}

// answer is what a letter of the tables below stands for, which are those above, and: ! NaN, Invalid; D, d infinite, DivZero; z a sum that is 0.
func (k table) answer(letter byte, m api.Mode) (uint64, api.Flags) {
	switch letter {
	case '!':
		return k.nan, api.Invalid
	case 'D':
		return k.inf, api.DivZero
	case 'd':
		return k.inf | k.sign, api.DivZero
	case 'z':
		return k.noughtOf(m), 0
	case 'N':
		return k.nan, 0
	}
	return k.of(letter)[0], 0
}

// Rows by the kind of the first word, columns by that of the second one; a point stands where the exact number is rounded.
func addKinds() [7]string {
	return [7]string{
		"I!IIIIN",
		"!iiiiiN",
		"IiOz..N",
		"Iizo..N",
		"Ii....N",
		"Ii....N",
		"NNNNNNN",
	}
}

func subKinds() [7]string {
	return [7]string{
		"!IIIIIN",
		"i!iiiiN",
		"iIzO..N",
		"iIoz..N",
		"iI....N",
		"iI....N",
		"NNNNNNN",
	}
}

func mulKinds() [7]string {
	return [7]string{
		"Ii!!IiN",
		"iI!!iIN",
		"!!OoOoN",
		"!!oOoON",
		"IiOo..N",
		"iIoO..N",
		"NNNNNNN",
	}
}

func divKinds() [7]string {
	return [7]string{
		"!!IiIiN",
		"!!iIiIN",
		"Oo!!OoN",
		"oO!!oON",
		"OoDd..N",
		"oOdD..N",
		"NNNNNNN",
	}
}

// mulAddKinds is the columns of c, by the letter of a times b in mulKinds.
func mulAddKinds(product byte) string {
	switch product {
	case '!':
		return "!!!!!!N"
	case 'I':
		return "I!IIIIN"
	case 'i':
		return "!iiiiiN"
	case 'O':
		return "IiOz..N"
	case 'o':
		return "Iizo..N"
	case '.':
		return "Ii....N"
	}
	return "NNNNNNN"
}

// checkKinds holds a call of two words against its table, in each mode.
func (c call) checkKinds(t *testing.T, rows [7]string) {
	t.Helper()
	for _, k := range tables() {
		for i, row := range rows {
			for j := range row {
				for _, a := range k.of(kinds[i]) {
					for _, b := range k.of(kinds[j]) {
						c.checkKind(t, k, row[j], a, b)
					}
				}
			}
		}
	}
}

func (c call) checkKind(t *testing.T, k table, letter byte, words ...uint64) {
	t.Helper()
	if letter == '.' {
		return
	}
	for _, m := range modes() {
		want, flags := k.answer(letter, m)
		c.tell(t, k, m, want, flags, words...)
	}
}

func TestP5_1_AddKinds(t *testing.T) { callAdd().checkKinds(t, addKinds()) }

func TestP5_1_SubKinds(t *testing.T) { callSub().checkKinds(t, subKinds()) }

func TestP5_2_Kinds(t *testing.T) { callMul().checkKinds(t, mulKinds()) }

func TestP5_3_Kinds(t *testing.T) { callDiv().checkKinds(t, divKinds()) }

func TestP5_4_Kinds(t *testing.T) {
	for _, k := range tables() {
		for i, letter := range []byte("I!Oo.!N") {
			for _, a := range k.of(kinds[i]) {
				callSqrt().checkKind(t, k, letter, a)
			}
		}
	}
}

func TestP5_5_Kinds(t *testing.T) {
	for _, k := range tables() {
		for i, row := range mulKinds() {
			for j := range row {
				for n := range kinds {
					checkMulAddKind(t, k, mulAddKinds(row[j])[n], kinds[i], kinds[j], kinds[n])
				}
			}
		}
	}
}

func checkMulAddKind(t *testing.T, k table, letter, kindA, kindB, kindC byte) {
	t.Helper()
	for _, a := range k.of(kindA) {
		for _, b := range k.of(kindB) {
			for _, c := range k.of(kindC) {
				callMulAdd().checkKind(t, k, letter, a, b, c)
			}
		}
	}
}
