package shape

import (
	"strconv"
	"strings"

	"trefoil/api"
)

// The parts of a class's word.
const (
	scalarLetter = "s"
	matrixLetter = "m"
	bitWord      = "b"
	daBitLetter  = "d"
	noClass      = "?"

	aheadOfSides = ":"
	betweenSides = "x"

	mostDigits = 3
)

// Name tells a class in a word.
func Name(c api.Class) string {
	if !mayBe(c) {
		return noClass
	}
	bits := strconv.Itoa(c.Bits)
	switch c.Kind {
	case api.Scalar:
		return scalarLetter + bits
	case api.Matrix:
		return matrixLetter + bits + aheadOfSides + nameSides(c)
	case api.DaBit:
		return daBitLetter + bits
	}
	return bitWord
}

// Parse reads a class of a word.
func Parse(s string) (api.Class, api.Errno) {
	c, ok := classOf(s)
	if !ok {
		return api.Class{}, api.ErrForm
	}
	if code := Check(c); code != api.OK {
		return api.Class{}, code
	}
	return c, api.OK
}

// nameSides tells the sides of a matrix's class.
func nameSides(c api.Class) string {
	return strconv.Itoa(c.M) + betweenSides + strconv.Itoa(c.K) + betweenSides + strconv.Itoa(c.N)
}

// classOf tells the class that a word is, be it one that may be or not, and whether it is such a word.
func classOf(s string) (api.Class, bool) {
	if s == bitWord {
		return api.Class{Kind: api.Bit, Bits: 1}, true
	}
	if rest, ok := strings.CutPrefix(s, scalarLetter); ok {
		return plainOf(api.Scalar, rest)
	}
	if rest, ok := strings.CutPrefix(s, matrixLetter); ok {
		return matrixOf(rest)
	}
	if rest, ok := strings.CutPrefix(s, daBitLetter); ok {
		return plainOf(api.DaBit, rest)
	}
	return api.Class{}, false
}

// plainOf tells the class of a kind that has bits alone.
func plainOf(kind int, s string) (api.Class, bool) {
	c := api.Class{Kind: kind, Bits: numberOf(s)}
	return c, c.Bits != 0
}

// matrixOf tells a matrix's class. Where a sign between numbers is missing, or is one too many, one of the numbers is none: that is seen there.
func matrixOf(s string) (api.Class, bool) {
	bits, sides, _ := strings.Cut(s, aheadOfSides)
	m, behind, _ := strings.Cut(sides, betweenSides)
	k, n, _ := strings.Cut(behind, betweenSides)
	c := api.Class{Kind: api.Matrix, Bits: numberOf(bits), M: numberOf(m), K: numberOf(k), N: numberOf(n)}
	return c, c.Bits != 0 && c.M != 0 && c.K != 0 && c.N != 0
}

// numberOf tells the number of some digits; 0 where they are no number, for what has no 0 ahead is never 0.
func numberOf(s string) int {
	if s == "" || len(s) > mostDigits || s[0] == '0' {
		return 0
	}
	x := 0
	for i := range len(s) {
		if s[i] < '0' || s[i] > '9' {
			return 0
		}
		x = 10*x + int(s[i]-'0')
	}
	return x
}
