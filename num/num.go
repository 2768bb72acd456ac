// Package num is layer 1: integers of 63 bits, words of memory, and texts as words.
package num

import (
	"iter"
	"strconv"

	"kindling/api"
)

// wordBytes is how many bytes of a text one word has.
const wordBytes = 8

// Fit tells whether n is an integer.
func Fit(n int64) bool { return api.MinInt <= n && n <= api.MaxInt }

// Wrap is n wrapped: the highest bit is lost, and the next one becomes the sign.
func Wrap(n int64) int64 { return n << 1 >> 1 }

// Add is the sum, wrapped. (What Go's int64 wraps is a multiple of 2^64, and so of 2^63.)
func Add(a, b int64) int64 { return Wrap(a + b) }

// Sub is the difference, wrapped.
func Sub(a, b int64) int64 { return Wrap(a - b) }

// Mul is the product, wrapped.
func Mul(a, b int64) int64 { return Wrap(a * b) }

// Neg is the number with its sign turned, wrapped.
func Neg(a int64) int64 { return Sub(0, a) }

// Div is the quotient of both wrapped, down to a whole number, wrapped.
func Div(a, b int64) (int64, api.Errno) {
	a, b = Wrap(a), Wrap(b)
	if b == 0 {
		return 0, api.ErrZero
	}
	return Wrap(floor(a, b)), api.OK
}

// Mod is what is left of that quotient: it has b's sign, or is 0.
func Mod(a, b int64) (int64, api.Errno) {
	a, b = Wrap(a), Wrap(b)
	if b == 0 {
		return 0, api.ErrZero
	}
	return a - b*floor(a, b), api.OK
}

// floor is the greatest whole number that is not above a / b; Go's own quotient goes towards 0.
func floor(a, b int64) int64 {
	q := a / b
	if a%b != 0 && (a < 0) != (b < 0) {
		q--
	}
	return q
}

// Text is n in decimal digits.
func Text(n int64) string { return strconv.FormatInt(n, 10) }

// Parse is the integer whose Text s is.
func Parse(s string) (int64, api.Errno) {
	n := value(s)
	// Whatever is not as Text writes it, too great a number too, is not what Text writes of value's answer.
	if !Fit(n) || Text(n) != s {
		return 0, api.ErrNumber
	}
	return n, api.OK
}

// value is the number of the digits that s begins with, behind a - or none; of no use where s is no number's text.
func value(s string) int64 {
	n, sign := int64(0), int64(1)
reading:
	for i := range len(s) {
		switch c := s[i]; {
		case '0' <= c && c <= '9':
			n = n*10 + int64(c-'0')
		case c == '-' && i == 0:
			sign = -1
		default:
			break reading
		}
	}
	return sign * n
}

// Int is the word of n wrapped.
func Int(n int64) uint64 { return uint64(n)<<1 | 1 }

// Ptr is the word of an address; that of the integer 0, if a is none.
func Ptr(a int) uint64 {
	if a < 1 || a > api.MaxAddr {
		return Int(0)
	}
	return uint64(a) << 1
}

// IsInt tells whether w is an integer's word.
func IsInt(w uint64) bool { return w&1 == 1 }

// IsPtr tells whether w is an address's word.
func IsPtr(w uint64) bool { return w&1 == 0 && 2 <= w && w <= 2*api.MaxAddr }

// ToInt is the integer of a word; 0, if w is no integer's.
func ToInt(w uint64) int64 {
	if !IsInt(w) {
		return 0
	}
	return int64(w) >> 1
}

// ToPtr is the address of a word; 0, if w is none's.
func ToPtr(w uint64) int {
	if !IsPtr(w) {
		return 0
	}
	return int(w >> 1)
}

// Each tells the words of a text, each with its number.
func Each(s string) iter.Seq2[int, uint64] {
	return func(yield func(int, uint64) bool) {
		for i := range wordsOf(len(s)) {
			if !yield(i, word(s[i*wordBytes:])) {
				return
			}
		}
	}
}

// word is the first word of a text.
func word(s string) uint64 {
	w := uint64(0)
	for i := range min(len(s), wordBytes) {
		w |= uint64(s[i]) << (8 * i)
	}
	return w
}

// wordsOf is how many words n bytes need, without the sum that could leave the type.
func wordsOf(n int) int { return n/wordBytes + (n%wordBytes+wordBytes-1)/wordBytes }

// Pack is the words of a text.
func Pack(s string) []uint64 {
	l := make([]uint64, 0, wordsOf(len(s)))
	for _, w := range Each(s) {
		l = append(l, w)
	}
	return l
}

// Unpack is the text of n bytes whose words l are.
func Unpack(l []uint64, n int) (string, api.Errno) {
	if n < 0 || len(l) != wordsOf(n) {
		return "", api.ErrArg
	}
	if used := n % wordBytes; used != 0 && l[len(l)-1]>>(8*used) != 0 {
		return "", api.ErrArg
	}
	bytes := make([]byte, n)
	for i := range bytes {
		bytes[i] = byte(l[i/wordBytes] >> (8 * (i % wordBytes)))
	}
	return string(bytes), api.OK
}
