package sha_test

import (
	"bytes"
	"crypto/sha256"
	"math/rand"
	"testing"

	"intaglio/sha"
)

// standsAt asks that a Hash has the sum of a text, and tells its length.
func standsAt(t *testing.T, what string, h *sha.Hash, text []byte) {
	t.Helper()
	if got, want := h.Sum(), sha256.Sum256(text); got != want || h.Len() != len(text) {
		t.Fatalf("%s, of %d bytes: %x and %d, want %x", what, len(text), got, h.Len(), want)
	}
}

// P5.2: New is a sum of nothing, and so it stays while nothing is written.
func TestHashOfNothing(t *testing.T) {
	h := sha.New()
	standsAt(t, "new", h, nil)
	for _, b := range [][]byte{nil, {}} {
		h.Write(b)
		standsAt(t, "behind nothing", h, nil)
	}
}

// P5.2: a sum may be asked for at every place, more than once, and more may come behind.
func TestSumBetween(t *testing.T) {
	text := randomBytes(rand.New(rand.NewSource(2)), 200)
	h := sha.New()
	for n := range text {
		standsAt(t, "between", h, text[:n])
		standsAt(t, "asked again", h, text[:n])
		h.Write(text[n : n+1])
		h.Write(nil)
	}
	standsAt(t, "the whole", h, text)
}

// P5.2: Len is how many bytes were written, whatever else is asked.
func TestLen(t *testing.T) {
	h := sha.New()
	n := 0
	for _, more := range []int{0, 1, 54, 1, 7, 1, 0, 64, 65, 1000, 1 << 16} {
		h.Write(make([]byte, more))
		n += more
		if h.Len() != n {
			t.Errorf("%d, want %d", h.Len(), n)
		}
		h.Sum()
		if h.Len() != n {
			t.Errorf("behind a Sum: %d, want %d", h.Len(), n)
		}
	}
}

// P5.3: a text that is cut once, at each of its places.
func TestCutOnce(t *testing.T) {
	rnd := rand.New(rand.NewSource(3))
	for _, n := range []int{0, 1, 55, 56, 63, 64, 65, 127, 128, 129, 150} {
		text := randomBytes(rnd, n)
		for cut := range n + 1 {
			h := sha.New()
			h.Write(text[:cut])
			h.Write(text[cut:])
			standsAt(t, "cut", h, text)
			if h.Sum() != sha.Sum(text) {
				t.Fatalf("%d of %d bytes: another sum than Sum tells", cut, n)
			}
		}
	}
}

// P5.3: in what pieces a text comes makes no difference, also with sums asked between.
func TestPieces(t *testing.T) {
	rnd := rand.New(rand.NewSource(4))
	for range 300 {
		text := randomBytes(rnd, rnd.Intn(600))
		h := sha.New()
		for at := 0; at < len(text); {
			n := min(rnd.Intn(1+rnd.Intn(200)), len(text)-at)
			h.Write(text[at : at+n])
			at += n
			if rnd.Intn(3) == 0 {
				standsAt(t, "piece", h, text[:at])
			}
		}
		standsAt(t, "pieces", h, text)
	}
}

// P5.2, and rule 6: of a Hash that New did not make nothing is written, and all that it tells is zero.
func TestHashThatNewDidNotMake(t *testing.T) {
	for name, h := range map[string]*sha.Hash{"nil": nil, "new": new(sha.Hash), "zero": {}} {
		for _, n := range []int{0, 1, 55, 56, 63, 64, 65, 300} {
			h.Write(bytes.Repeat([]byte{0xff}, n))
			if sum := h.Sum(); sum != [32]byte{} || h.Len() != 0 {
				t.Errorf("%s, behind %d bytes: %x, %d", name, n, sum, h.Len())
			}
		}
	}
}

// Rule 4: what is written is neither changed nor kept.
func TestWriteMemory(t *testing.T) {
	for n := range 130 {
		room := bytes.Repeat([]byte{0xee}, 200)
		h := sha.New()
		h.Write(room[:n])
		h.Sum()
		if !bytes.Equal(room, bytes.Repeat([]byte{0xee}, 200)) {
			t.Fatalf("%d bytes: what was handed in is %x", n, room)
		}
		clear(room)
		standsAt(t, "behind a change of what was handed in", h, bytes.Repeat([]byte{0xee}, n))
	}
}

// Rule 5: Hashes know nothing of one another.
func TestTwoHashes(t *testing.T) {
	rnd := rand.New(rand.NewSource(5))
	textA, textB := randomBytes(rnd, 300), randomBytes(rnd, 300)
	a, b := sha.New(), sha.New()
	for at := 0; at < 300; at += 20 {
		a.Write(textA[at : at+20])
		sha.Sum(textB)
		b.Write(textB[at : at+20])
		standsAt(t, "the one", a, textA[:at+20])
		standsAt(t, "the other one", b, textB[:at+20])
	}
}
