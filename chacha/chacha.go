// Package chacha is the stream cipher ChaCha20.
package chacha

import (
	"math/bits"

	"intaglio/pack"
)

// blockSize is how many bytes a block has; blocks, how many counters there are.
const (
	blockSize = 64
	blocks    = 1 << 32
)

// head is the numbers with which every block begins.
var head = [4]uint32{0x61707865, 0x3320646e, 0x79622d32, 0x6b206574}

// quarters is the places of a double round's quarter rounds.
var quarters = [8][4]int{
	{0, 4, 8, 12}, {1, 5, 9, 13}, {2, 6, 10, 14}, {3, 7, 11, 15},
	{0, 5, 10, 15}, {1, 6, 11, 12}, {2, 7, 8, 13}, {3, 4, 9, 14},
}

// Quarter is a quarter round.
func Quarter(a, b, c, d uint32) (uint32, uint32, uint32, uint32) {
	a += b
	d = bits.RotateLeft32(d^a, 16)
	c += d
	b = bits.RotateLeft32(b^c, 12)
	a += b
	d = bits.RotateLeft32(d^a, 8)
	c += d
	b = bits.RotateLeft32(b^c, 7)
	return a, b, c, d
}

// first is the numbers of a block ahead of its rounds.
func first(key [32]byte, counter uint32, nonce [12]byte) [16]uint32 {
	x := [16]uint32{12: counter}
	for i := range head {
		x[i] = head[i]
	}
	for i := range 8 {
		x[4+i] = pack.Le32(key[:], 4*i)
	}
	for i := range 3 {
		x[13+i] = pack.Le32(nonce[:], 4*i)
	}
	return x
}

// Block is a block of the stream.
func Block(key [32]byte, counter uint32, nonce [12]byte) [64]byte {
	start := first(key, counter, nonce)
	x := start
	for range 10 {
		for _, p := range quarters {
			x[p[0]], x[p[1]], x[p[2]], x[p[3]] = Quarter(x[p[0]], x[p[1]], x[p[2]], x[p[3]])
		}
	}
	var out [blockSize]byte
	for i := range x {
		copy(out[4*i:], pack.PutLe32(nil, x[i]+start[i]))
	}
	return out
}

// Xor is data, xored with the bytes of a stream; false: it has not so many.
func Xor(key [32]byte, counter uint32, nonce [12]byte, data []byte) ([]byte, bool) {
	return New(key, counter, nonce).Xor(data)
}
