package chacha_test

import (
	"math"
	"math/rand"
	"testing"

	"intaglio/chacha"
)

// P2.3: a new stream has all blocks from its counter on.
func TestStreamLeft(t *testing.T) {
	for counter, left := range map[uint32]uint64{0: 1 << 38, 1: 1<<38 - 64, 77: 1<<38 - 77*64, math.MaxUint32 - 1: 128, math.MaxUint32: 64} {
		s := chacha.New(rising(), counter, someNonce())
		if s.Left() != left {
			t.Errorf("counter %d: %d", counter, s.Left())
		}
		for _, n := range []int{0, 1, 7, 0, 30} {
			s.Xor(make([]byte, n))
			left -= uint64(n)
			if s.Left() != left {
				t.Errorf("counter %d, behind %d bytes: %d, want %d", counter, n, s.Left(), left)
			}
		}
	}
}

// P2.3: a stream goes on where it ended, to the end of the last block, and no further.
func TestStreamEnds(t *testing.T) {
	all := streamBytes(rising(), math.MaxUint32-1, someNonce(), 128)
	s := chacha.New(rising(), math.MaxUint32-1, someNonce())
	take := func(from, to int) {
		t.Helper()
		got, ok := s.Xor(make([]byte, to-from))
		if !ok || s.Left() != uint64(128-to) {
			t.Errorf("%d to %d: %v, %d left", from, to, ok, s.Left())
		}
		want(t, "piece", got, all[from:to])
	}
	tooLong := func(n int) {
		t.Helper()
		left := s.Left()
		if got, ok := s.Xor(make([]byte, n)); ok || len(got) != 0 || s.Left() != left {
			t.Errorf("a piece of %d of %d: %x, %v, %d left", n, left, got, ok, s.Left())
		}
	}
	tooLong(129)
	take(0, 50)
	tooLong(79)
	tooLong(1 << 20)
	take(50, 64)
	tooLong(65)
	take(64, 64)
	take(64, 100)
	tooLong(29)
	take(100, 127)
	tooLong(2)
	take(127, 128)
	tooLong(1)
	tooLong(64)
	take(128, 128)
}

// P2.5: in what pieces bytes come makes no difference, those of the same bytes of Xor.
func TestPieces(t *testing.T) {
	rnd := rand.New(rand.NewSource(5))
	for range 60 {
		data := make([]byte, rnd.Intn(700))
		rnd.Read(data)
		whole, ok := chacha.Xor(rising(), 9, someNonce(), data)
		if !ok {
			t.Fatal("false")
		}
		s := chacha.New(rising(), 9, someNonce())
		var got []byte
		for len(got) < len(data) {
			n := min(rnd.Intn(1+rnd.Intn(150)), len(data)-len(got))
			piece, ok := s.Xor(data[len(got):][:n])
			if !ok || len(piece) != n {
				t.Fatal(ok, len(piece), n)
			}
			got = append(got, piece...)
		}
		want(t, "pieces", got, whole)
	}
}

// Rule 5: streams know nothing of one another.
func TestTwoStreams(t *testing.T) {
	a, b := chacha.New(rising(), 3, someNonce()), chacha.New(rising(), 3, someNonce())
	all := streamBytes(rising(), 3, someNonce(), 200)
	for at := 0; at < 200; at += 20 {
		x, _ := a.Xor(make([]byte, 20))
		want(t, "the one", x, all[at:at+20])
		y, _ := b.Xor(make([]byte, 20))
		want(t, "the other one", y, all[at:at+20])
	}
}

// P2.3, and rule 6: a stream that New did not make has no bytes.
func TestStreamThatNewDidNotMake(t *testing.T) {
	for name, s := range map[string]*chacha.Stream{"nil": nil, "new": new(chacha.Stream), "zero": {}} {
		for _, data := range [][]byte{nil, {}, {1}, make([]byte, 64), nil, make([]byte, 1000)} {
			got, ok := s.Xor(data)
			if ok != (len(data) == 0) || len(got) != 0 || s.Left() != 0 {
				t.Errorf("%s, %d bytes: %x, %v, %d left", name, len(data), got, ok, s.Left())
			}
		}
	}
}
