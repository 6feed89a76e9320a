package poly

import (
	"math/bits"

	"intaglio/pack"
)

// number is a number in three words, the lowest first. No branch and no place hangs on one: it is secret.
type number [3]uint64

// factor is a number in two words, the lower first.
type factor [2]uint64

// fromBytes is the number of at most 24 bytes, the lowest first.
func fromBytes(b []byte) number {
	return number{pack.Le64(b, 0), pack.Le64(b, 8), pack.Le64(b, 16)}
}

// plus is two numbers together, of three words.
func (a number) plus(b number) number {
	var carry uint64
	for i := range a {
		a[i], carry = bits.Add64(a[i], b[i], carry)
	}
	return a
}

// multiplyAdd is x times y, and two more words, as two words: it is never more than they hold.
func multiplyAdd(x, y, a, b uint64) (high, low uint64) {
	high, low = bits.Mul64(x, y)
	low, carry := bits.Add64(low, a, 0)
	high += carry
	low, carry = bits.Add64(low, b, 0)
	return high + carry, low
}

// product is a times b, whole.
func product(a number, b factor) [5]uint64 {
	var out [5]uint64
	for i := range a {
		var carry uint64
		for j := range b {
			carry, out[i+j] = multiplyAdd(a[i], b[j], out[i+j], carry)
		}
		out[i+len(b)] = carry
	}
	return out
}

// times is a times b modulo 2^130 - 5, or that and 2^130 - 5: below 2^130 + 2^128, if a is below 2^131 and b below 2^124.
func times(a number, b factor) number {
	// The product is below 2^255: its fifth word is 0.
	p := product(a, b)
	low := number{p[0], p[1], p[2] & 3}
	// Each 2^130 counts 5: what stands from there on counts four times, which is how it stands in its words, and once.
	four := number{p[2] &^ 3, p[3]}
	once := number{p[2]>>2 | p[3]<<62, p[3] >> 2}
	return low.plus(four).plus(once)
}

// reduced is a modulo 2^130 - 5, if a is below twice that.
func (a number) reduced() number {
	// With 5 more, a has bit 130 just if it is 2^130 - 5 or above.
	over := a.plus(number{5})[2] >> 2
	a = a.plus(number{5 * over})
	a[2] &= 3
	return a
}
