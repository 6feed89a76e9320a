// Package pack is numbers and texts as bytes, in one form each.
package pack

import "math/bits"

// number is the numbers that are laid as bytes.
type number interface {
	uint32 | uint64
}

// width is how many bytes a number of a type has.
func width[N number]() int { return bits.Len64(uint64(^N(0))) / 8 }

// lay is b's bytes, and a number's behind them, the lowest or the highest of these first.
func lay[N number](b []byte, x N, lowFirst bool) []byte {
	n := width[N]()
	out := make([]byte, len(b)+n)
	copy(out, b)
	for i := range n {
		at := len(out) - 1 - i
		if lowFirst {
			at = len(b) + i
		}
		out[at] = byte(x >> (8 * i))
	}
	return out
}

// Put32 is bytes, and a number behind them.
func Put32(b []byte, x uint32) []byte { return lay(b, x, false) }

// Put64 is bytes, and a number behind them.
func Put64(b []byte, x uint64) []byte { return lay(b, x, false) }

// PutNum is bytes, and a number behind them; one below 0 as 0.
func PutNum(b []byte, n int) []byte { return Put64(b, uint64(max(n, 0))) }

// Put is bytes, and a text behind them, its length ahead.
func Put(b, s []byte) []byte { return Join(b, Put32(nil, uint32(len(s))), s) }

// PutLe32 is bytes, and a number behind them, the lowest byte first.
func PutLe32(b []byte, x uint32) []byte { return lay(b, x, true) }

// PutLe64 is bytes, and a number behind them, the lowest byte first.
func PutLe64(b []byte, x uint64) []byte { return lay(b, x, true) }

// fromLow is the number that stands in b from a place on, the lowest byte first.
func fromLow[N number](b []byte, at int) N {
	var x N
	for i := range width[N]() {
		// Behind the greatest int a place goes round to one below 0: that is not in b either.
		if p := at + i; 0 <= p && p < len(b) {
			x |= N(b[p]) << (8 * i)
		}
	}
	return x
}

// Le32 is a number that stands from a place on.
func Le32(b []byte, at int) uint32 { return fromLow[uint32](b, at) }

// Le64 is a number that stands from a place on.
func Le64(b []byte, at int) uint64 { return fromLow[uint64](b, at) }

// Join is parts, one behind the other.
func Join(parts ...[]byte) []byte {
	n := 0
	for _, p := range parts {
		n += len(p)
	}
	out := make([]byte, 0, n)
	for _, p := range parts {
		out = append(out, p...)
	}
	return out
}
