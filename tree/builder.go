package tree

import (
	"math/bits"
	"slices"
)

// Builder sums chunks that come one by one.
type Builder struct {
	made bool // new(Builder) must take nothing in, one without chunks must
	n    int
	// whole is the sums of parts that grow no more, the greatest first: a part for each power of two of which n is made.
	whole [][32]byte
}

// New is a Builder without chunks.
func New() *Builder { return &Builder{made: true} }

// Add adds a chunk.
func (b *Builder) Add(chunk []byte) {
	if b == nil || !b.made {
		return
	}
	b.n++
	part, last := Leaf(chunk), len(b.whole)
	// A counter in twos carries as often as what it comes to ends with noughts: so often two parts are equally great.
	for range bits.TrailingZeros(uint(b.n)) {
		last--
		part = Node(b.whole[last], part)
	}
	// Clipped, so that nothing is written over that a copy of this Builder has.
	b.whole = append(slices.Clip(b.whole[:last]), part)
}

// Len is how many chunks there are.
func (b *Builder) Len() int {
	if b == nil {
		return 0
	}
	return b.n
}

// Root is the sum of all chunks.
func (b *Builder) Root() [32]byte {
	if b.Len() == 0 {
		return sum(ofNone)
	}
	last := len(b.whole) - 1
	root := b.whole[last]
	for i := range last {
		root = Node(b.whole[last-1-i], root)
	}
	return root
}
