package tree_test

import (
	"math"
	"math/rand"
	"slices"
	"testing"

	"intaglio/tree"
)

// asked is what Check is asked.
type asked struct {
	root  [32]byte
	n, i  int
	chunk []byte
	path  [][32]byte
}

// ask is all that Check is told of a chunk that stands there.
func ask(chunks [][]byte, i int) asked {
	return asked{plainRoot(chunks), len(chunks), i, chunks[i], plainPath(chunks, i)}
}

// checks asks that Check tells what it should.
func (a asked) checks(t *testing.T, what string, want bool) {
	t.Helper()
	if tree.Check(a.root, a.n, a.i, a.chunk, a.path) != want {
		t.Errorf("%s: chunk %d of %d, %d bytes, a path of %d: not %v", what, a.i, a.n, len(a.chunk), len(a.path), want)
	}
}

// P12.2: a path that is shorter or longer, at its beginning or its end, or by nothing but sums of nothing, does not check.
func TestLengthsOfPaths(t *testing.T) {
	for n := 1; n < 20; n++ {
		chunks := numbered(n)
		for i := range n {
			whole := ask(chunks, i)
			whole.checks(t, "whole", true)
			a := whole
			for m := range whole.path {
				a.path = whole.path[:m]
				a.checks(t, "shorter", false)
				a.path = whole.path[m+1:]
				a.checks(t, "shorter ahead", false)
				a.path = slices.Delete(slices.Clone(whole.path), m, m+1)
				a.checks(t, "one left out", false)
			}
			for m := range len(whole.path) + 1 {
				for _, more := range [][32]byte{{}, whole.root, plainLeaf(whole.chunk)} {
					a.path = slices.Insert(slices.Clone(whole.path), m, more)
					a.checks(t, "longer", false)
				}
			}
			a.path = slices.Concat(whole.path, make([][32]byte, 100))
			a.checks(t, "much longer", false)
		}
	}
}

// P12.2, P12.5: one bit of the root, of the chunk or of a sum of the path turned, a byte of the chunk more or less: it does not check.
func TestBitsTurned(t *testing.T) {
	for n := 1; n < 12; n++ {
		chunks := numbered(n)
		for i := range n {
			for bit := range 256 {
				a := ask(chunks, i)
				a.root[bit/8] ^= 1 << (bit % 8)
				a.checks(t, "another root", false)
				for m := range a.path {
					a = ask(chunks, i)
					a.path[m][bit/8] ^= 1 << (bit % 8)
					a.checks(t, "another sum", false)
				}
			}
			a := ask(chunks, i)
			for bit := range 8 * len(a.chunk) {
				a.chunk = slices.Clone(chunks[i])
				a.chunk[bit/8] ^= 1 << (bit % 8)
				a.checks(t, "another chunk", false)
			}
			for _, other := range [][]byte{nil, chunks[i][:len(chunks[i])-1], chunks[i][1:], append(slices.Clone(chunks[i]), 0), append([]byte{0}, chunks[i]...)} {
				a.chunk = other
				a.checks(t, "a byte more or less", false)
			}
		}
	}
}

// P12.2: places below 0 and from the number on, and numbers of no chunks, do not check, whatever else is told.
func TestPlacesThatAreNot(t *testing.T) {
	for n := 1; n < 20; n++ {
		chunks := numbered(n)
		for i := range n {
			for _, place := range []int{math.MinInt, -n, i - n, -1 - i, -1, n, n + i, n + 1, 2 * n, math.MaxInt} {
				if place >= 0 && place < n {
					continue
				}
				a := ask(chunks, i)
				a.i = place
				a.checks(t, "a place that is not", false)
			}
			for _, number := range []int{math.MinInt, -n, -1, 0} {
				a := ask(chunks, i)
				a.n = number
				a.checks(t, "a number that is not", false)
			}
		}
	}
	none := tree.Root(nil)
	for _, a := range []asked{{none, 0, 0, nil, nil}, {none, 0, -1, nil, nil}, {none, 1, 0, nil, nil}, {n: 0}, {n: 1}, {n: 1, i: 1}, {n: -1, i: -1}, {n: -1, i: -2}, {n: math.MinInt, i: math.MinInt}} {
		a.checks(t, "of none", false)
	}
}

// P12.2, P12.5: at another place, or of another number, a chunk checks just where the Root would be made of it in the same way.
func TestOtherPlacesAndNumbers(t *testing.T) {
	for n := 1; n < 18; n++ {
		for _, kind := range []string{"unlike", "same", "without bytes"} {
			chunks := kindsOf(n)[kind]
			for i := range n {
				a := ask(chunks, i)
				for a.n = 0; a.n < 20; a.n++ {
					for a.i = -1; a.i < 20; a.i++ {
						want := plainCheck(a.root, a.n, a.i, a.chunk, a.path)
						a.checks(t, kind, want)
						if kind == "unlike" && a.n == n && want != (a.i == i) {
							t.Errorf("%d of %d checks at %d", i, n, a.i)
						}
					}
				}
			}
		}
	}
}

// P12.5: of unlike chunks each checks at its own place alone, by its own path alone.
func TestBinds(t *testing.T) {
	for n := 1; n < 14; n++ {
		chunks := numbered(n)
		root := plainRoot(chunks)
		for i := range n {
			for j := range n {
				for k := range n {
					a := asked{root, n, i, chunks[j], plainPath(chunks, k)}
					a.checks(t, "of its own", i == j && j == k)
				}
			}
		}
	}
}

// P12.5: a sum of two is no chunk, and a chunk that has the bytes of two sums is no sum of them.
func TestNodesAreNoChunks(t *testing.T) {
	chunks := numbered(4)
	root := plainRoot(chunks)
	x, y := plainRoot(chunks[:2]), plainRoot(chunks[2:])
	for _, text := range [][]byte{append(x[:], y[:]...), append([]byte{1}, append(x[:], y[:]...)...)} {
		asked{root, 1, 0, text, nil}.checks(t, "two sums", false)
	}
	asked{root, 2, 0, x[:], [][32]byte{y}}.checks(t, "a sum as a chunk", false)
	asked{plainLeaf(append(x[:], y[:]...)), 2, 0, chunks[0], [][32]byte{y}}.checks(t, "a leaf as a root", false)
}

// P12.2, rule 6: numbers as great as there are, by paths that nobody could make of chunks.
func TestGreatNumbers(t *testing.T) {
	rnd := rand.New(rand.NewSource(3))
	for _, n := range []int{1<<31 - 1, 1 << 31, 1<<32 + 1, 1<<61 + 5, 1<<62 - 1, 1 << 62, 1<<62 + 1, math.MaxInt - 1, math.MaxInt} {
		for _, i := range []int{0, 1, n / 3, n / 2, n/2 + 1, 1 << 30, n - 2, n - 1} {
			path := make([][32]byte, plainSteps(n, i))
			for m := range path {
				rnd.Read(path[m][:])
			}
			chunk := []byte("a chunk")
			root := plainTop(n, i, chunk, path)
			asked{root, n, i, chunk, path}.checks(t, "great", true)
			asked{root, n, i, nil, path}.checks(t, "another chunk", false)
			asked{root, n, i, chunk, path[1:]}.checks(t, "shorter", false)
			asked{root, n, i, chunk, append(path, root)}.checks(t, "longer", false)
			asked{root, n, n, chunk, path}.checks(t, "beyond", false)
			asked{root, n, i - n, chunk, path}.checks(t, "below", false)
			asked{root, n, i, chunk, nil}.checks(t, "no path", false)
		}
	}
}

// P12.2: whatever is asked, Check tells what the chapter's words tell.
func TestAnyChecks(t *testing.T) {
	rnd := rand.New(rand.NewSource(4))
	right := 0
	for range 20000 {
		n := 1 + rnd.Intn(9)
		chunks := kindsOf(n)[[]string{"unlike", "same", "random"}[rnd.Intn(3)]]
		a := ask(chunks, rnd.Intn(n))
		for range rnd.Intn(3) {
			switch rnd.Intn(5) {
			case 0:
				a.n = rnd.Intn(12) - 1
			case 1:
				a.i = rnd.Intn(12) - 1
			case 2:
				a.chunk = chunks[rnd.Intn(n)]
			case 3:
				a.path = plainPath(chunks, rnd.Intn(n))
			case 4:
				a.root = plainRoot(chunks[:rnd.Intn(n+1)])
			}
		}
		want := plainCheck(a.root, a.n, a.i, a.chunk, a.path)
		a.checks(t, "any", want)
		if want {
			right++
		}
	}
	if right < 1000 || right > 19000 {
		t.Errorf("%d of 20000 were right", right)
	}
}
