package tree_test

import (
	"bytes"
	"encoding/hex"
	"math"
	"math/rand"
	"slices"
	"strconv"
	"testing"

	"intaglio/tree"
)

// is asks for a sum.
func is(t *testing.T, what string, got, want [32]byte) {
	t.Helper()
	if got != want {
		t.Errorf("%s: %x, want %x", what, got, want)
	}
}

// reads is a sum of its digits in sixteens.
func reads(t *testing.T, digits string) [32]byte {
	t.Helper()
	b, err := hex.DecodeString(digits)
	if err != nil {
		t.Fatal(err)
	}
	return [32]byte(b)
}

// P12.1: the sums of a byte 0, of a byte 1 and two sums of bytes 0, and of a byte 2, in sixteens.
func TestSumsInSixteens(t *testing.T) {
	is(t, "leaf of nothing", tree.Leaf(nil), reads(t, "6e340b9cffb37a989ca544e6bb780a2c78901d3fb33738768511a30617afa01d"))
	is(t, "leaf of abc", tree.Leaf([]byte("abc")), reads(t, "609f6e36d2405585188d5cfd761f407c7cc46a7d3f314c88270469dde315fcd1"))
	is(t, "node of noughts", tree.Node([32]byte{}, [32]byte{}), reads(t, "ae0798d0ecaed2b778eddebf18f071a561c53658c05e76cedecc27cafbdbc577"))
	is(t, "root of none", tree.Root(nil), reads(t, "dbc1b4c900ffe48d575b5da5c638040125f65db0fe3e24494b76ea986457d986"))
	is(t, "root of none", tree.Root([][]byte{}), tree.Root(nil))
}

// P12.1: a Leaf is the sum of a byte 0 and the chunk, of every length.
func TestLeaf(t *testing.T) {
	rnd := rand.New(rand.NewSource(1))
	for _, n := range []int{0, 1, 2, 31, 32, 54, 55, 56, 62, 63, 64, 65, 255, 256, 257, 1000, 1 << 16} {
		b := make([]byte, n)
		rnd.Read(b)
		is(t, "leaf", tree.Leaf(b), plainLeaf(b))
		is(t, "root of one", tree.Root([][]byte{b}), plainLeaf(b))
	}
	is(t, "nil and none are one", tree.Leaf(nil), tree.Leaf([]byte{}))
}

// P12.1: a Node is the sum of a byte 1 and both sums in their order.
func TestNode(t *testing.T) {
	rnd := rand.New(rand.NewSource(2))
	for range 100 {
		var a, b [32]byte
		rnd.Read(a[:])
		rnd.Read(b[:])
		is(t, "node", tree.Node(a, b), plainNode(a, b))
		is(t, "of one twice", tree.Node(a, a), plainNode(a, a))
		if tree.Node(a, b) == tree.Node(b, a) {
			t.Errorf("%x, %x: turned round the same", a, b)
		}
		if tree.Node(a, b) == tree.Leaf(append(a[:], b[:]...)) {
			t.Errorf("%x, %x: a leaf's sum", a, b)
		}
	}
}

// P12.1: the Root of any number of chunks parts them at the greatest power of two below.
func TestRoot(t *testing.T) {
	for _, n := range sizes() {
		for kind, chunks := range kindsOf(n) {
			if got, want := tree.Root(chunks), plainRoot(chunks); got != want {
				t.Errorf("%d chunks, %s: %x, want %x", n, kind, got, want)
			}
		}
	}
}

// P12.1: what the Roots of small numbers are made of.
func TestRootsByHand(t *testing.T) {
	l := numbered(7)
	var s [7][32]byte
	for i := range s {
		s[i] = tree.Leaf(l[i])
	}
	two := tree.Node(s[0], s[1])
	four := tree.Node(two, tree.Node(s[2], s[3]))
	for n, want := range map[int][32]byte{
		1: s[0],
		2: two,
		3: tree.Node(two, s[2]),
		4: four,
		5: tree.Node(four, s[4]),
		6: tree.Node(four, tree.Node(s[4], s[5])),
		7: tree.Node(four, tree.Node(tree.Node(s[4], s[5]), s[6])),
	} {
		is(t, "root", tree.Root(l[:n]), want)
	}
}

// P12.1, P12.5: other chunks, another order, one more, one less, one cut in two: another Root.
func TestUnlikeRoots(t *testing.T) {
	seen := map[[32]byte]string{}
	put := func(what string, chunks [][]byte) {
		root := tree.Root(chunks)
		if other, ok := seen[root]; ok {
			t.Errorf("%s and %s have one root", what, other)
		}
		seen[root] = what
	}
	for n := range 70 {
		put(strconv.Itoa(n)+" without bytes", make([][]byte, n))
	}
	a, b, c := []byte("a"), []byte("b"), []byte("c")
	put("a", [][]byte{a})
	put("a b", [][]byte{a, b})
	put("b a", [][]byte{b, a})
	put("ab", [][]byte{[]byte("ab")})
	put("a b c", [][]byte{a, b, c})
	put("a b c c", [][]byte{a, b, c, c})
	put("a b c none", [][]byte{a, b, c, nil})
	put("ab c", [][]byte{[]byte("ab"), c})
	put("a bc", [][]byte{a, []byte("bc")})
	put("c a b", [][]byte{c, a, b})
	x, y := tree.Leaf(a), tree.Leaf(b)
	put("both sums", [][]byte{append(x[:], y[:]...)})
	put("a byte 1 and both sums", [][]byte{append([]byte{1}, append(x[:], y[:]...)...)})
}

// samePath asks for a path.
func samePath(t *testing.T, what string, got [][32]byte, ok bool, want [][32]byte) {
	t.Helper()
	if !ok || !slices.Equal(got, want) {
		t.Errorf("%s: %v, %x, want %x", what, ok, got, want)
	}
}

// P12.2: the Path of each place, its own part's sums ahead; the chapter's example.
func TestPath(t *testing.T) {
	for _, n := range sizes() {
		chunks := numbered(n)
		for _, i := range places(n) {
			path, ok := tree.Path(chunks, i)
			samePath(t, "path", path, ok, plainPath(chunks, i))
		}
	}
	three := numbered(3)
	path, ok := tree.Path(three, 2)
	samePath(t, "the example", path, ok, [][32]byte{tree.Node(tree.Leaf(three[0]), tree.Leaf(three[1]))})
}

// P12.2: what the Paths of seven chunks are made of.
func TestPathsByHand(t *testing.T) {
	l := numbered(7)
	s := func(from, to int) [32]byte { return tree.Root(l[from:to]) }
	for i, want := range [][][32]byte{
		{s(1, 2), s(2, 4), s(4, 7)},
		{s(0, 1), s(2, 4), s(4, 7)},
		{s(3, 4), s(0, 2), s(4, 7)},
		{s(2, 3), s(0, 2), s(4, 7)},
		{s(5, 6), s(6, 7), s(0, 4)},
		{s(4, 5), s(6, 7), s(0, 4)},
		{s(4, 6), s(0, 4)},
	} {
		path, ok := tree.Path(l, i)
		samePath(t, "of seven", path, ok, want)
	}
}

// P12.2: of one chunk the Path is none, and there it is; of places where no chunk stands there is none.
func TestPlacesOfPaths(t *testing.T) {
	for _, n := range sizes() {
		chunks := numbered(n)
		for _, i := range []int{math.MinInt, -n, -1, n, n + 1, 2 * n, math.MaxInt} {
			if i >= 0 && i < n || i == 0 && n > 0 {
				continue
			}
			if path, ok := tree.Path(chunks, i); ok || len(path) != 0 {
				t.Errorf("%d of %d: %v, %x", i, n, ok, path)
			}
		}
		for _, i := range []int{0, n - 1} {
			if _, ok := tree.Path(chunks, i); ok != (n > 0) {
				t.Errorf("%d of %d: %v", i, n, ok)
			}
		}
	}
	path, ok := tree.Path([][]byte{nil}, 0)
	samePath(t, "of one", path, ok, nil)
	if path, ok := tree.Path(nil, 0); ok || len(path) != 0 {
		t.Errorf("of none: %v, %x", ok, path)
	}
}

// P12.4: each chunk's Path checks.
func TestBack(t *testing.T) {
	for _, n := range sizes() {
		for kind, chunks := range kindsOf(n) {
			root := tree.Root(chunks)
			for _, i := range places(n) {
				path, ok := tree.Path(chunks, i)
				if !ok || !tree.Check(root, n, i, chunks[i], path) {
					t.Errorf("%d of %d, %s: %v, does not check", i, n, kind, ok)
				}
			}
		}
	}
}

// Rule 4: nothing that is handed in is changed, and an answer shares nothing with it.
func TestMemory(t *testing.T) {
	for _, n := range []int{1, 2, 3, 7, 8, 9} {
		room := append(numbered(n), []byte("spare"), []byte("room"))
		keep := cloned(room)
		chunks := room[:n]
		root := tree.Root(chunks)
		path, _ := tree.Path(chunks, n/2)
		wide := append(slices.Clone(path), [32]byte{7})
		if !tree.Check(root, n, n/2, chunks[n/2], wide[:len(path)]) || wide[len(path)] != [32]byte{7} || !slices.Equal(wide[:len(path)], path) {
			t.Errorf("%d: the path is %x", n, wide)
		}
		if !slices.EqualFunc(room, keep, bytes.Equal) {
			t.Errorf("%d: chunks are %x", n, room)
		}
		clear(path[:cap(path)])
		again, ok := tree.Path(chunks, n/2)
		samePath(t, "asked again", again, ok, plainPath(keep[:n], n/2))
	}
	edge := bytes.Repeat([]byte{0xee}, 100)
	tree.Leaf(edge[:50])
	if !bytes.Equal(edge, bytes.Repeat([]byte{0xee}, 100)) {
		t.Errorf("behind Leaf: %x", edge)
	}
}
