package snap_test

import (
	"bytes"
	"encoding/binary"
	"math/rand"
	"slices"
	"testing"

	"intaglio/api"
	"intaglio/box"
	"intaglio/tree"
)

const most = 1 << 40

// someID is an id all of whose numbers are unlike.
func someID() api.KeyID {
	return api.KeyID{Label: api.KSnap, Epoch: 11, Life: 12, Num: 13, Side: 1, Peer: 14}
}

// otherIDs are ids that are like someID but for one number.
func otherIDs() []api.KeyID {
	var out []api.KeyID
	for i := range 6 {
		id := someID()
		*fields(&id)[i] ^= 1
		out = append(out, id)
	}
	return out
}

// fields are the places of an id's numbers.
func fields(id *api.KeyID) []*int {
	return []*int{&id.Label, &id.Epoch, &id.Life, &id.Num, &id.Side, &id.Peer}
}

// newBox is a box of a secret that all have.
func newBox(ideal bool) *box.Box { return box.New([]byte("secret"), ideal) }

// both does something with a new box of each kind.
func both(t *testing.T, do func(t *testing.T, b *box.Box)) {
	t.Helper()
	t.Run("real", func(t *testing.T) { do(t, newBox(false)) })
	t.Run("ideal", func(t *testing.T) { do(t, newBox(true)) })
}

// put is a text, its length ahead.
func put(text []byte) []byte {
	return append(binary.BigEndian.AppendUint32(nil, uint32(len(text))), text...)
}

// filled is n bytes.
func filled(n int) []byte { return bytes.Repeat([]byte{'x'}, n) }

// laid is an entry that takes so many bytes of a chunk, 4 or more.
func laid(size int) []byte { return filled(size - 4) }

// texts are entries, or chunks, of strings.
func texts(s ...string) [][]byte {
	var out [][]byte
	for _, one := range s {
		out = append(out, []byte(one))
	}
	return out
}

// same tells whether two lists have the same texts.
func same(a, b [][]byte) bool { return slices.EqualFunc(a, b, bytes.Equal) }

// cloned is texts in new memory.
func cloned(l [][]byte) [][]byte {
	var out [][]byte
	for _, one := range l {
		out = append(out, bytes.Clone(one))
	}
	return out
}

// sizesOf is how long texts are.
func sizesOf(l [][]byte) []int {
	var out []int
	for _, one := range l {
		out = append(out, len(one))
	}
	return out
}

// plainChunks is Chunks by the chapter's words: for each chunk the entries that it has, laid one behind the other in the end.
func plainChunks(entries [][]byte) [][]byte {
	var held [][][]byte
	size := func(chunk [][]byte) int {
		n := 0
		for _, entry := range chunk {
			n += 4 + len(entry)
		}
		return n
	}
	for _, entry := range entries {
		if n := len(held); n > 0 && size(held[n-1])+4+len(entry) <= 256 {
			held[n-1] = append(held[n-1], entry)
		} else {
			held = append(held, [][]byte{entry})
		}
	}
	var out [][]byte
	for _, chunk := range held {
		var b []byte
		for _, entry := range chunk {
			b = append(b, put(entry)...)
		}
		out = append(out, b)
	}
	return out
}

// plainSplit is Split by the chapter's words: all bytes of chunks are entries, one behind the other, and these have such Chunks.
func plainSplit(chunks [][]byte) ([][]byte, bool) {
	var entries [][]byte
	all := bytes.Join(chunks, nil)
	for len(all) > 0 {
		if len(all) < 4 {
			return nil, false
		}
		n := int(binary.BigEndian.Uint32(all))
		if n > len(all)-4 {
			return nil, false
		}
		entries = append(entries, all[4:4+n])
		all = all[4+n:]
	}
	return entries, same(plainChunks(entries), chunks)
}

// someEntries are entries of many lengths, some of them about as long as a chunk.
func someEntries(rnd *rand.Rand, n int) [][]byte {
	var out [][]byte
	for range n {
		size := rnd.Intn(60)
		switch rnd.Intn(8) {
		case 0:
			size = 0
		case 1:
			size = 248 + rnd.Intn(8)
		case 2:
			size = rnd.Intn(600)
		}
		b := make([]byte, size)
		rnd.Read(b)
		out = append(out, b)
	}
	return out
}

// plainHead is a snapshot's first text.
func plainHead(meta []byte, n uint64, root []byte) []byte {
	return append(binary.BigEndian.AppendUint64(put(meta), n), root...)
}

// headOf is the first text that tells of chunks, and their root.
func headOf(meta []byte, chunks [][]byte) (text, root []byte) {
	sum := tree.Root(chunks)
	return plainHead(meta, uint64(len(chunks)), sum[:]), sum[:]
}

// sealing is a text that is sealed, with what number, and what beside.
type sealing struct {
	n        int
	ad, text []byte
}

// sealingsOf are the texts of a snapshot of chunks.
func sealingsOf(meta []byte, chunks [][]byte) []sealing {
	text, root := headOf(meta, chunks)
	out := []sealing{{0, nil, text}}
	for i, chunk := range chunks {
		out = append(out, sealing{i + 1, root, chunk})
	}
	return out
}

// sealedBy are texts, each as a file has it, sealed by a box.
func sealedBy(t *testing.T, b *box.Box, id api.KeyID, l []sealing) [][]byte {
	t.Helper()
	var out [][]byte
	for _, s := range l {
		sealed, e := b.Seal(id, s.n, s.ad, s.text)
		if e != api.OK {
			t.Fatalf("%d of %d bytes: %d", s.n, len(s.text), e)
		}
		out = append(out, put(sealed))
	}
	return out
}

// partsOf are the texts of which a file is, as it has them.
func partsOf(file []byte) [][]byte {
	var out [][]byte
	for len(file) > 0 {
		n := 4 + int(binary.BigEndian.Uint32(file))
		out = append(out, file[:n])
		file = file[n:]
	}
	return out
}
