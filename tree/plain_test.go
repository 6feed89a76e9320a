package tree_test

import (
	"bytes"
	"crypto/sha256"
	"math/rand"
)

// plainSum is the library's sum of a byte and of parts.
func plainSum(kind byte, parts ...[]byte) [32]byte {
	return sha256.Sum256(append([]byte{kind}, bytes.Join(parts, nil)...))
}

func plainLeaf(chunk []byte) [32]byte { return plainSum(0, chunk) }

func plainNode(a, b [32]byte) [32]byte { return plainSum(1, a[:], b[:]) }

// plainK is the greatest power of two below n, which is 2 or more.
func plainK(n int) int {
	k := 1
	for k < n-k {
		k += k
	}
	return k
}

// plainRoot is the Root by the chapter's words.
func plainRoot(chunks [][]byte) [32]byte {
	switch len(chunks) {
	case 0:
		return plainSum(2)
	case 1:
		return plainLeaf(chunks[0])
	}
	k := plainK(len(chunks))
	return plainNode(plainRoot(chunks[:k]), plainRoot(chunks[k:]))
}

// plainPath is the Path of a place that is there, by the chapter's words.
func plainPath(chunks [][]byte, i int) [][32]byte {
	if len(chunks) == 1 {
		return nil
	}
	k := plainK(len(chunks))
	if i < k {
		return append(plainPath(chunks[:k], i), plainRoot(chunks[k:]))
	}
	return append(plainPath(chunks[k:], i-k), plainRoot(chunks[:k]))
}

// plainSteps is how many sums a Path of the chunk i of n has.
func plainSteps(n, i int) int {
	if n == 1 {
		return 0
	}
	if k := plainK(n); i >= k {
		return 1 + plainSteps(n-k, i-k)
	} else {
		return 1 + plainSteps(k, i)
	}
}

// plainTop is what n chunks, of which the i-th is one, come to by a path that has as many sums as such a Path.
func plainTop(n, i int, chunk []byte, path [][32]byte) [32]byte {
	if n == 1 {
		return plainLeaf(chunk)
	}
	last := len(path) - 1
	k := plainK(n)
	if i < k {
		return plainNode(plainTop(k, i, chunk, path[:last]), path[last])
	}
	return plainNode(path[last], plainTop(n-k, i-k, chunk, path[:last]))
}

// plainCheck is Check by the chapter's words.
func plainCheck(root [32]byte, n, i int, chunk []byte, path [][32]byte) bool {
	if i < 0 || i > n-1 || len(path) != plainSteps(n, i) {
		return false
	}
	return plainTop(n, i, chunk, path) == root
}

// sizes are numbers of chunks: all small ones, and powers of two, one below and one above.
func sizes() []int {
	var out []int
	for n := range 36 {
		out = append(out, n)
	}
	for p := 64; p <= 1024; p *= 2 {
		out = append(out, p-1, p, p+1)
	}
	return append(out, 100, 1000)
}

// places are places of n chunks: all of few, some of many.
func places(n int) []int {
	var out []int
	for i := range n {
		if n < 40 || i < 2 || i >= n-2 || i >= n/2-1 && i <= n/2 || i == n/3 {
			out = append(out, i)
		}
	}
	return out
}

// numbered is n chunks of unlike bytes and of many lengths.
func numbered(n int) [][]byte {
	var out [][]byte
	for i := range n {
		out = append(out, bytes.Repeat([]byte{byte(i), byte(i >> 8)}, 1+i%40))
	}
	return out
}

// kindsOf is n chunks of each of some kinds: unlike ones, the same ones, ones without bytes, any.
func kindsOf(n int) map[string][][]byte {
	rnd := rand.New(rand.NewSource(int64(n)))
	same, none, random := [][]byte{}, make([][]byte, n), [][]byte{}
	for i := range n {
		same = append(same, []byte("the same"))
		if i%2 == 0 {
			none[i] = []byte{}
		}
		b := make([]byte, rnd.Intn(3)*rnd.Intn(200))
		rnd.Read(b)
		random = append(random, b)
	}
	return map[string][][]byte{"unlike": numbered(n), "same": same, "without bytes": none, "random": random}
}

// cloned is chunks in new memory.
func cloned(chunks [][]byte) [][]byte {
	var out [][]byte
	for _, c := range chunks {
		out = append(out, bytes.Clone(c))
	}
	return out
}
