// Package int63 is layer 1: the integers of the language, 63-bit two's complement numbers with wraparound. See shared/doc/01-int63.md.
package int63

import (
	"cognate/api"
)

// longest is the length of the longest text of an integer.
const longest = len("-4611686018427387904")

// Wrap returns the integer that n means: the one that differs from it by a multiple of 2^63.
func Wrap(n int64) int64 {
	// Go shifts signed numbers arithmetically: bit 62 becomes the sign.
	return n << 1 >> 1
}

// Fits reports whether n is an integer.
func Fits(n int64) bool { return n == Wrap(n) }

// Add returns the sum. Here as in Sub and Mul the operands need no Wrap: a result modulo 2^64 also determines it modulo 2^63.
func Add(a, b int64) int64 { return Wrap(a + b) }

// Sub returns the difference.
func Sub(a, b int64) int64 { return Wrap(a - b) }

// Mul returns the product.
func Mul(a, b int64) int64 { return Wrap(a * b) }

// Quo returns the quotient, rounded towards 0, or ErrZero if b means 0.
func Quo(a, b int64) (int64, api.Errno) {
	a, b = Wrap(a), Wrap(b)
	if b == 0 {
		return 0, api.ErrZero
	}
	return Wrap(a / b), api.OK
}

// Rem returns the remainder of Quo, or ErrZero if b means 0.
func Rem(a, b int64) (int64, api.Errno) {
	a, b = Wrap(a), Wrap(b)
	if b == 0 {
		return 0, api.ErrZero
	}
	return a % b, api.OK
}

// Cmp returns -1, 0 or 1 if a means less than, the same as, or more than b.
func Cmp(a, b int64) int {
	a, b = Wrap(a), Wrap(b)
	switch {
	case a < b:
		return -1
	case a > b:
		return 1
	}
	return 0
}

// Text returns the decimal form of the integer that n means.
func Text(n int64) string {
	n = Wrap(n)
	var text [longest]byte
	at := len(text)
	rest := max(n, -n)
	for {
		at--
		text[at] = byte('0' + rest%10)
		rest /= 10
		if rest == 0 {
			break
		}
	}
	if n < 0 {
		at--
		text[at] = '-'
	}
	return string(text[at:])
}

// Parse returns the integer whose decimal form is s; ErrArg if s is no decimal form, ErrLimit if it is that of another whole number.
func Parse(s string) (int64, api.Errno) {
	digits, sign, limit := s, int64(1), int64(api.MaxInt)
	if len(s) > 0 && s[0] == '-' {
		digits, sign, limit = s[1:], -1, -api.MinInt
	}
	if !isNatural(digits) || s == "-0" {
		return 0, api.ErrArg
	}
	size := int64(0)
	for i := range len(digits) {
		digit := int64(digits[i] - '0')
		// Asked before the step, because the step could overflow.
		if size > (limit-digit)/10 {
			return 0, api.ErrLimit
		}
		size = size*10 + digit
	}
	return sign * size, api.OK
}

// isNatural reports whether s is a number in decimal digits without leading zeros.
func isNatural(s string) bool {
	for i := range len(s) {
		if s[i] < '0' || s[i] > '9' {
			return false
		}
	}
	return s == "0" || s != "" && s[0] != '0'
}
