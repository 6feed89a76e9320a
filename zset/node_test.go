package zset

import (
	"strconv"
	"testing"

	"intaglio/api"
)

// Ways: how far a node's links go is said by its member's bytes alone, be its score what it may.
func TestHeightByBytes(t *testing.T) {
	for i := range 1000 {
		m := strconv.Itoa(i)
		n := len(newNode(api.Score{Member: m}).links)
		for _, score := range []int{-1, 1, i} {
			if again := len(newNode(api.Score{Member: m, Score: score}).links); again != n || n < 1 || n > levels {
				t.Errorf("%s: %d links, and %d", m, n, again)
			}
		}
	}
}

// Ways: each level skips some of the nodes of the one below, so that it is a skip list.
func TestLevelsSkip(t *testing.T) {
	for _, begin := range []string{"", "m", "\x00", "a member that begins with many bytes which are the same: "} {
		const members = 1 << 12
		z := New()
		for i := range members {
			z.Put(begin+strconv.Itoa(i), i%9)
		}
		below := 2 * members
		for level := range 4 {
			n := 0
			for at := z.head.links[level].to; at != nil; at = at.links[level].to {
				n++
			}
			if n == 0 || n > below/2 {
				t.Errorf("%q: %d nodes on level %d, %d on the one below", begin, n, level, below)
			}
			below = n
		}
	}
}
