package tree_test

import (
	"bytes"
	"slices"
	"testing"

	"intaglio/tree"
)

// stands asks that a Builder has the Root and the number of chunks.
func stands(t *testing.T, what string, b *tree.Builder, chunks [][]byte) {
	t.Helper()
	if root, want := b.Root(), plainRoot(chunks); root != want || b.Len() != len(chunks) {
		t.Errorf("%s, of %d chunks: %x and %d, want %x", what, len(chunks), root, b.Len(), want)
	}
}

// P12.3: New is a Builder of no chunk.
func TestBuilderOfNone(t *testing.T) {
	b := tree.New()
	for range 3 {
		stands(t, "new", b, nil)
	}
}

// P12.3: behind each Add a Root may be asked for, more than once, and more may come behind.
func TestRootBetween(t *testing.T) {
	for kind, chunks := range kindsOf(140) {
		b := tree.New()
		for n := range chunks {
			b.Add(chunks[n])
			for range 2 {
				stands(t, kind, b, chunks[:n+1])
			}
		}
	}
}

// P12.3: a Root that is asked for at the end alone.
func TestRootAtTheEnd(t *testing.T) {
	for _, n := range sizes() {
		for kind, chunks := range kindsOf(n) {
			b := tree.New()
			for _, c := range chunks {
				b.Add(c)
			}
			stands(t, kind, b, chunks)
		}
	}
}

// P12.3: a Builder tells of its chunks what Root tells of them, and their Paths check by it.
func TestBuilderAndPaths(t *testing.T) {
	chunks := numbered(23)
	b := tree.New()
	for n, c := range chunks {
		b.Add(c)
		is(t, "root", b.Root(), tree.Root(chunks[:n+1]))
		path, _ := tree.Path(chunks[:n+1], n/2)
		if !tree.Check(b.Root(), b.Len(), n/2, chunks[n/2], path) {
			t.Errorf("%d of %d does not check", n/2, n+1)
		}
	}
}

// P12.3, rule 6: to a Builder that New did not make nothing is added; it tells 0 and the Root of none.
func TestBuilderThatNewDidNotMake(t *testing.T) {
	for name, b := range map[string]*tree.Builder{"nil": nil, "new": new(tree.Builder), "zero": {}} {
		stands(t, name, b, nil)
		for _, c := range append(numbered(5), nil, []byte{}) {
			b.Add(c)
			stands(t, name, b, nil)
		}
	}
}

// Rule 4: what is added is neither changed nor kept.
func TestAddMemory(t *testing.T) {
	chunks := numbered(20)
	b := tree.New()
	for n := range chunks {
		room := append(bytes.Clone(chunks[n]), 0xee, 0xee)
		keep := bytes.Clone(room)
		b.Add(room[:len(room)-2])
		if !bytes.Equal(room, keep) {
			t.Errorf("%d: %x, want %x", n, room, keep)
		}
		clear(room)
		stands(t, "behind a change of what was handed in", b, chunks[:n+1])
	}
}

// Rule 5: Builders know nothing of one another, be one a copy of the other.
func TestTwoBuilders(t *testing.T) {
	one, other := numbered(40), kindsOf(40)["random"]
	a, b := tree.New(), tree.New()
	for n := range one {
		a.Add(one[n])
		tree.Root(other)
		b.Add(other[n])
		stands(t, "the one", a, one[:n+1])
		stands(t, "the other one", b, other[:n+1])
	}
	for n := range one {
		a := tree.New()
		for _, c := range one[:n] {
			a.Add(c)
		}
		b := *a
		for m := range other {
			a.Add(one[n])
			b.Add(other[m])
			stands(t, "the copied one", a, append(slices.Clone(one[:n]), slices.Repeat(one[n:n+1], m+1)...))
			stands(t, "the copy", &b, append(slices.Clone(one[:n]), other[:m+1]...))
		}
	}
}
