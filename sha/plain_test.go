package sha_test

import (
	"encoding/binary"
	"math/big"
)

// firstPrimes is the first n primes.
func firstPrimes(n int) []int64 {
	var out []int64
	for p := int64(2); len(out) < n; p++ {
		if big.NewInt(p).ProbablyPrime(0) {
			out = append(out, p)
		}
	}
	return out
}

// behindPoint is the first 32 bits behind the point of a number's root: the square root, or the cube root.
func behindPoint(n int64, power int) uint32 {
	scaled := new(big.Int).Lsh(big.NewInt(n), uint(32*power))
	exponent := big.NewInt(int64(power))
	// The greatest number whose power is not above, bit by bit.
	root := new(big.Int)
	for bit := 40; bit >= 0; bit-- {
		more := new(big.Int).SetBit(root, bit, 1)
		if new(big.Int).Exp(more, exponent, nil).Cmp(scaled) <= 0 {
			root = more
		}
	}
	return uint32(root.Uint64())
}

// plainRoots is the state ahead of all blocks, and the numbers K, by their words.
func plainRoots() (state [8]uint32, k [64]uint32) {
	for i, p := range firstPrimes(64) {
		if i < 8 {
			state[i] = behindPoint(p, 2)
		}
		k[i] = behindPoint(p, 3)
	}
	return state, k
}

func right(x uint32, n int) uint32 { return x>>n | x<<(32-n) }

// plainBlock is the state behind a block, by the chapter's words.
func plainBlock(state [8]uint32, k [64]uint32, block []byte) [8]uint32 {
	var w [64]uint32
	for i := range w {
		if i < 16 {
			w[i] = binary.BigEndian.Uint32(block[4*i:])
			continue
		}
		x, y := w[i-15], w[i-2]
		w[i] = (right(y, 17) ^ right(y, 19) ^ y>>10) + w[i-7] + (right(x, 7) ^ right(x, 18) ^ x>>3) + w[i-16]
	}
	s := state
	for i := range w {
		a, b, c, e, f, g := s[0], s[1], s[2], s[4], s[5], s[6]
		t := s[7] + (right(e, 6) ^ right(e, 11) ^ right(e, 25)) + ((e & f) ^ (^e & g)) + k[i] + w[i]
		u := (right(a, 2) ^ right(a, 13) ^ right(a, 22)) + ((a & b) ^ (a & c) ^ (b & c))
		s = [8]uint32{t + u, a, b, c, s[3] + t, e, f, g}
	}
	for i := range s {
		s[i] += state[i]
	}
	return s
}

// plainSum is the sum by the chapter's words, of a text that is laid whole.
func plainSum(text []byte) [32]byte {
	padded := append(append([]byte{}, text...), 128)
	for len(padded)%64 != 56 {
		padded = append(padded, 0)
	}
	padded = binary.BigEndian.AppendUint64(padded, 8*uint64(len(text)))
	state, k := plainRoots()
	for ; len(padded) > 0; padded = padded[64:] {
		state = plainBlock(state, k, padded[:64])
	}
	var out []byte
	for _, x := range state {
		out = binary.BigEndian.AppendUint32(out, x)
	}
	return [32]byte(out)
}
