package sha

import (
	"math/bits"

	"intaglio/pack"
)

// blockSize is how many bytes a block has; rounds, how many rounds it takes.
const (
	blockSize = 64
	rounds    = 64
)

// state is what blocks change.
type state [8]uint32

// start is the state ahead of all blocks: of the first eight primes' square roots the first 32 bits behind the point.
var start = state{0x6a09e667, 0xbb67ae85, 0x3c6ef372, 0xa54ff53a, 0x510e527f, 0x9b05688c, 0x1f83d9ab, 0x5be0cd19}

// roots is the numbers K: of the first 64 primes' cube roots the first 32 bits behind the point.
var roots = [rounds]uint32{
	0x428a2f98, 0x71374491, 0xb5c0fbcf, 0xe9b5dba5, 0x3956c25b, 0x59f111f1, 0x923f82a4, 0xab1c5ed5,
	0xd807aa98, 0x12835b01, 0x243185be, 0x550c7dc3, 0x72be5d74, 0x80deb1fe, 0x9bdc06a7, 0xc19bf174,
	0xe49b69c1, 0xefbe4786, 0x0fc19dc6, 0x240ca1cc, 0x2de92c6f, 0x4a7484aa, 0x5cb0a9dc, 0x76f988da,
	0x983e5152, 0xa831c66d, 0xb00327c8, 0xbf597fc7, 0xc6e00bf3, 0xd5a79147, 0x06ca6351, 0x14292967,
	0x27b70a85, 0x2e1b2138, 0x4d2c6dfc, 0x53380d13, 0x650a7354, 0x766a0abb, 0x81c2c92e, 0x92722c85,
	0xa2bfe8a1, 0xa81a664b, 0xc24b8b70, 0xc76c51a3, 0xd192e819, 0xd6990624, 0xf40e3585, 0x106aa070,
	0x19a4c116, 0x1e376c08, 0x2748774c, 0x34b0bcb5, 0x391c0cb3, 0x4ed8aa4a, 0x5b9cca4f, 0x682e6ff3,
	0x748f82ee, 0x78a5636f, 0x84c87814, 0x8cc70208, 0x90befffa, 0xa4506ceb, 0xbef9a3f7, 0xc67178f2,
}

// turned is x's bits, turned right.
func turned(x uint32, by int) uint32 { return bits.RotateLeft32(x, -by) }

// s0, s1, bigS0 and bigS1 are s0, s1, S0 and S1 of the standard.
func s0(x uint32) uint32    { return turned(x, 7) ^ turned(x, 18) ^ x>>3 }
func s1(x uint32) uint32    { return turned(x, 17) ^ turned(x, 19) ^ x>>10 }
func bigS0(x uint32) uint32 { return turned(x, 2) ^ turned(x, 13) ^ turned(x, 22) }
func bigS1(x uint32) uint32 { return turned(x, 6) ^ turned(x, 11) ^ turned(x, 25) }

// words is the numbers W of a block, one for each round.
func words(block [blockSize]byte) [rounds]uint32 {
	var w [rounds]uint32
	r := pack.Read(block[:])
	for i := range blockSize / 4 {
		w[i] = r.U32()
	}
	for i := blockSize / 4; i < rounds; i++ {
		w[i] = s1(w[i-2]) + w[i-7] + s0(w[i-15]) + w[i-16]
	}
	return w
}

// round is the state behind a round; word is its K and its W together.
func (s state) round(word uint32) state {
	a, b, c, d, e, f, g, h := s[0], s[1], s[2], s[3], s[4], s[5], s[6], s[7]
	t := h + bigS1(e) + (e&f ^ ^e&g) + word
	u := bigS0(a) + (a&b ^ a&c ^ b&c)
	return state{t + u, a, b, c, d + t, e, f, g}
}

// behind is the state behind a block.
func (s state) behind(block [blockSize]byte) state {
	turning := s
	for i, w := range words(block) {
		turning = turning.round(roots[i] + w)
	}
	for i := range s {
		s[i] += turning[i]
	}
	return s
}

// bytes is the state's bytes, the highest of each number first.
func (s state) bytes() [32]byte {
	var out []byte
	for _, x := range s {
		out = pack.Put32(out, x)
	}
	return [32]byte(out)
}
