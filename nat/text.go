package nat

import (
	"slices"
	"strconv"

	"cutplane/api"
)

// Texts are made and read by chunks: the greatest power of ten that a digit holds.
const (
	chunk   = 1000000000
	noughts = "000000000"
)

// maxDecimals is how many decimal digits 2^maxBits has: with one more, a number is too long for sure.
const maxDecimals = 39457

// Text is the decimal digits of a.
func Text(a []uint32) (string, api.Errno) {
	if !May(a) {
		return "", api.ErrArg
	}
	if len(a) == 0 {
		return "0", api.OK
	}
	return joinChunks(chunksOf(a)), api.OK
}

// chunksOf is a to the base chunk, the lowest first.
func chunksOf(a []uint32) []uint32 {
	var chunks []uint32
	rest := slices.Clone(a)
	for len(rest) > 0 {
		chunks = append(chunks, divideBy(rest, chunk))
		rest = trim(rest)
	}
	return chunks
}

// joinChunks fills up with noughts all chunks but the highest one.
func joinChunks(chunks []uint32) string {
	var text []byte
	for i := range len(chunks) {
		part := strconv.Itoa(int(chunks[len(chunks)-1-i]))
		if i > 0 {
			text = append(text, noughts[len(part):]...)
		}
		text = append(text, part...)
	}
	return string(text)
}

// Parse is the number whose decimal digits s is.
func Parse(s string) ([]uint32, api.Errno) {
	if !isDecimal(s) {
		return nil, api.ErrText
	}
	if len(s) > maxDecimals {
		return nil, api.ErrLong
	}
	return notLong(read(s))
}

func isDecimal(s string) bool {
	if len(s) == 0 || s[0] == '0' && len(s) > 1 {
		return false
	}
	for i := range len(s) {
		if s[i] < '0' || s[i] > '9' {
			return false
		}
	}
	return true
}

// read is the number that the decimal digits s say.
func read(s string) []uint32 {
	var a []uint32
	part, scale := uint32(0), uint32(1)
	for i := range len(s) {
		part = part*10 + uint32(s[i]-'0')
		scale *= 10
		if scale == chunk || i == len(s)-1 {
			a = timesPlus(a, scale, part)
			part, scale = 0, 1
		}
	}
	return a
}

// timesPlus is a times d and c more, in the place of a.
func timesPlus(a []uint32, d, c uint32) []uint32 {
	carry := uint64(c)
	for i, x := range a {
		t := uint64(x)*uint64(d) + carry
		a[i] = uint32(t)
		carry = t >> digitBits
	}
	if carry != 0 {
		a = append(a, uint32(carry))
	}
	return a
}
