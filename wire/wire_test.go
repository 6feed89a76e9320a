package wire_test

import (
	"bytes"
	"math"
	"math/rand"
	"slices"
	"testing"

	"intaglio/api"
	"intaglio/wire"
)

const maxFrame = 1 << 17

// send asks what Send tells; only where that is OK, one more was sent and is under way.
func send(t *testing.T, n *wire.Wire, way int, frame []byte, want api.Errno) {
	t.Helper()
	count, waiting := n.Count(way), n.Waiting(way)
	if e := n.Send(way, frame); e != want {
		t.Errorf("send of %d bytes on %d: %d, want %d", len(frame), way, e, want)
	}
	if want == api.OK {
		count, waiting = count+1, waiting+1
	}
	counts(t, n, way, count, waiting)
}

// counts asks how many were sent, and how many are under way.
func counts(t *testing.T, n *wire.Wire, way, count, waiting int) {
	t.Helper()
	if n.Count(way) != count || n.Waiting(way) != waiting {
		t.Errorf("way %d: %d sent, %d waiting, want %d, %d", way, n.Count(way), n.Waiting(way), count, waiting)
	}
}

// next asks for the next frame; one that comes is under way no more.
func next(t *testing.T, n *wire.Wire, way int, want []byte, wantE api.Errno) {
	t.Helper()
	count, waiting := n.Count(way), n.Waiting(way)
	if got, e := n.Next(way); e != wantE || !bytes.Equal(got, want) {
		t.Errorf("next on %d: %d, %.30q of %d bytes, want %d, %.30q of %d", way, e, got, len(got), wantE, want, len(want))
	}
	if wantE == api.OK {
		waiting--
	}
	counts(t, n, way, count, waiting)
}

// lose asks what Lose tells; a frame that is lost is under way no more.
func lose(t *testing.T, n *wire.Wire, way int, want api.Errno) {
	t.Helper()
	count, waiting := n.Count(way), n.Waiting(way)
	if e := n.Lose(way); e != want {
		t.Errorf("lose on %d: %d, want %d", way, e, want)
	}
	if want == api.OK {
		waiting--
	}
	counts(t, n, way, count, waiting)
}

// pick asks for the k-th frame; it changes nothing.
func pick(t *testing.T, n *wire.Wire, way, k int, want []byte, wantE api.Errno) {
	t.Helper()
	count, waiting := n.Count(way), n.Waiting(way)
	if got, e := n.Pick(way, k); e != wantE || !bytes.Equal(got, want) {
		t.Errorf("pick of %d on %d: %d, %.30q of %d bytes, want %d, %.30q of %d", k, way, e, got, len(got), wantE, want, len(want))
	}
	counts(t, n, way, count, waiting)
}

// frame is the frame of a number.
func frame(i int) []byte { return []byte{'f', byte(i), byte(i >> 8)} }

// P11.1: the chapter's example.
func TestExample(t *testing.T) {
	n := wire.New(1)
	send(t, n, 0, []byte("a"), api.OK)
	send(t, n, 0, []byte("b"), api.OK)
	next(t, n, 0, []byte("a"), api.OK)
	pick(t, n, 0, 0, []byte("a"), api.OK)
	next(t, n, 0, []byte("b"), api.OK)
	next(t, n, 0, nil, api.ENONE)
}

// P11.1: there are 1 to 64 ways, or no net.
func TestHowManyWays(t *testing.T) {
	for _, ways := range []int{math.MinInt, -64, -1, 0, 65, 66, 128, 1 << 32, math.MaxInt} {
		if wire.New(ways) != nil {
			t.Errorf("%d ways", ways)
		}
	}
	for _, ways := range []int{1, 2, 12, 63, 64} {
		n := wire.New(ways)
		if n == nil {
			t.Fatalf("%d ways: nil", ways)
		}
		for way := range ways {
			counts(t, n, way, 0, 0)
			send(t, n, way, frame(way), api.OK)
		}
		for way := range ways {
			next(t, n, way, frame(way), api.OK)
		}
		noWay(t, n, ways, ways+1, 64, 65, 200, 1<<32, math.MaxInt, -1, -2, -ways, math.MinInt)
		for way := range ways {
			counts(t, n, way, 1, 0)
		}
	}
}

// noWay asks that there are no such ways, whatever is asked of them.
func noWay(t *testing.T, n *wire.Wire, ways ...int) {
	t.Helper()
	for _, way := range ways {
		for _, size := range []int{0, 1, maxFrame, maxFrame + 1} {
			send(t, n, way, make([]byte, size), api.EARG)
		}
		next(t, n, way, nil, api.EARG)
		lose(t, n, way, api.EARG)
		for _, k := range []int{-1, 0, 1} {
			pick(t, n, way, k, nil, api.EARG)
		}
		counts(t, n, way, 0, 0)
	}
}

// P11.1, rule 6: a net that New did not make has no way.
func TestNotMade(t *testing.T) {
	for name, n := range map[string]*wire.Wire{"nil": nil, "new": new(wire.Wire), "zero": {}, "of no ways": wire.New(0), "of too many": wire.New(65)} {
		t.Run(name, func(t *testing.T) { noWay(t, n, 0, 1, 63, 64, -1, math.MaxInt, math.MinInt) })
	}
}

// P11.1: frames of up to 2^17 bytes are sent, those of none too; one of more is not, and changes nothing.
func TestFrameSize(t *testing.T) {
	n := wire.New(2)
	for _, size := range []int{0, 1, 1000, maxFrame - 1, maxFrame} {
		f := bytes.Repeat([]byte{7}, size)
		send(t, n, 1, f, api.OK)
		next(t, n, 1, f, api.OK)
		pick(t, n, 1, n.Count(1)-1, f, api.OK)
	}
	for _, size := range []int{maxFrame + 1, maxFrame + 2, 2 * maxFrame, 1 << 20} {
		send(t, n, 1, make([]byte, size), api.ELONG)
		next(t, n, 1, nil, api.ENONE)
	}
	counts(t, n, 0, 0, 0)
}

// P11.1, rule 3: a frame of no bytes is a frame, nil or not.
func TestFramesOfNoBytes(t *testing.T) {
	n := wire.New(1)
	send(t, n, 0, nil, api.OK)
	send(t, n, 0, []byte{}, api.OK)
	for range 2 {
		next(t, n, 0, nil, api.OK)
	}
	next(t, n, 0, nil, api.ENONE)
	pick(t, n, 0, 0, nil, api.OK)
	pick(t, n, 0, 1, nil, api.OK)
}

// P11.1: 200 frames are sent on a way, and not one more, whatever came of them; a frame that is too long is told ahead.
func TestFullWay(t *testing.T) {
	for _, taken := range []int{0, 1, 100, 200} {
		n := wire.New(2)
		for i := range 200 {
			send(t, n, 0, frame(i), api.OK)
			if i < taken {
				next(t, n, 0, frame(i), api.OK)
			}
		}
		for range 3 {
			send(t, n, 0, frame(200), api.EFULL)
			send(t, n, 0, nil, api.EFULL)
			send(t, n, 0, make([]byte, maxFrame+1), api.ELONG)
		}
		// The other way is not full.
		send(t, n, 1, frame(200), api.OK)
		for i := range 200 {
			pick(t, n, 0, i, frame(i), api.OK)
		}
		pick(t, n, 0, 200, nil, api.ENONE)
		for i := taken; i < 200; i++ {
			next(t, n, 0, frame(i), api.OK)
		}
		next(t, n, 0, nil, api.ENONE)
		send(t, n, 0, frame(200), api.EFULL)
	}
}

// P11.1: none is under way: Next and Lose tell it, at first, and behind the last one, as often as they are asked.
func TestNoneUnderWay(t *testing.T) {
	n := wire.New(2)
	send(t, n, 0, frame(1), api.OK)
	for range 3 {
		next(t, n, 1, nil, api.ENONE)
		lose(t, n, 1, api.ENONE)
	}
	send(t, n, 1, frame(2), api.OK)
	send(t, n, 1, frame(3), api.OK)
	next(t, n, 1, frame(2), api.OK)
	lose(t, n, 1, api.OK)
	for range 3 {
		next(t, n, 1, nil, api.ENONE)
		lose(t, n, 1, api.ENONE)
	}
	counts(t, n, 0, 1, 1)
	send(t, n, 1, frame(4), api.OK)
	next(t, n, 1, frame(4), api.OK)
}

// P11.1: a frame that is lost is the first one, and stays in the bag.
func TestLose(t *testing.T) {
	n := wire.New(1)
	for i := range 5 {
		send(t, n, 0, frame(i), api.OK)
	}
	lose(t, n, 0, api.OK)
	next(t, n, 0, frame(1), api.OK)
	lose(t, n, 0, api.OK)
	lose(t, n, 0, api.OK)
	next(t, n, 0, frame(4), api.OK)
	for i := range 5 {
		pick(t, n, 0, i, frame(i), api.OK)
	}
}

// P11.1: any frame that ever was sent is picked, as often as it is asked for, on its own way; no other number is.
func TestPick(t *testing.T) {
	n := wire.New(3)
	pick(t, n, 1, 0, nil, api.ENONE)
	for i := range 10 {
		send(t, n, 1, frame(i), api.OK)
		send(t, n, 2, frame(100+i), api.OK)
		for _, k := range []int{-1, -2, -10, math.MinInt, i + 1, i + 2, 200, 1 << 32, math.MaxInt} {
			pick(t, n, 1, k, nil, api.ENONE)
		}
		for range 2 {
			for k := range i + 1 {
				pick(t, n, 1, k, frame(k), api.OK)
				pick(t, n, 2, k, frame(100+k), api.OK)
			}
		}
	}
	pick(t, n, 0, 0, nil, api.ENONE)
	// Picking takes nothing from what is under way.
	for i := range 10 {
		next(t, n, 1, frame(i), api.OK)
	}
}

// plain is a way by the chapter's words: what was sent, and how many of these came or were lost.
type plain struct {
	sent [][]byte
	gone int
}

// P11.3: what is not lost comes in the order in which it was sent, on each way, whatever is done in between.
func TestOrder(t *testing.T) {
	for seed := range int64(20) {
		rnd := rand.New(rand.NewSource(seed))
		n := wire.New(4)
		ways := make([]plain, 4)
		for range 1200 {
			way := rnd.Intn(len(ways))
			m := &ways[way]
			want, none := []byte(nil), api.ENONE
			if m.gone < len(m.sent) {
				want, none = m.sent[m.gone], api.OK
			}
			switch rnd.Intn(5) {
			case 0, 1:
				f := make([]byte, rnd.Intn(5))
				rnd.Read(f)
				if len(m.sent) == 200 {
					send(t, n, way, f, api.EFULL)
				} else {
					send(t, n, way, f, api.OK)
					m.sent = append(m.sent, f)
				}
			case 2:
				next(t, n, way, want, none)
				m.gone = min(m.gone+1, len(m.sent))
			case 3:
				lose(t, n, way, none)
				m.gone = min(m.gone+1, len(m.sent))
			case 4:
				if k := rnd.Intn(len(m.sent) + 1); k < len(m.sent) {
					pick(t, n, way, k, m.sent[k], api.OK)
				} else {
					pick(t, n, way, k, nil, api.ENONE)
				}
			}
			counts(t, n, way, len(m.sent), len(m.sent)-m.gone)
		}
	}
}

// P11.3: nets have ways of their own.
func TestNetsApart(t *testing.T) {
	a, b := wire.New(1), wire.New(1)
	send(t, a, 0, frame(1), api.OK)
	counts(t, b, 0, 0, 0)
	next(t, b, 0, nil, api.ENONE)
	send(t, b, 0, frame(2), api.OK)
	next(t, a, 0, frame(1), api.OK)
	next(t, b, 0, frame(2), api.OK)
}

// P11.2: one byte is turned, at the place modulo how many there are, as a number without a sign.
func TestTurn(t *testing.T) {
	f := []byte{0x00, 0x11, 0x22, 0x33, 0x44, 0x55, 0x66}
	// 2^64 is 2 modulo 7, 1 modulo 3 and 5, 0 modulo 1, 2 and 4, 4 modulo 6.
	for _, c := range []struct{ size, at, place int }{
		{7, 0, 0}, {7, 1, 1}, {7, 6, 6}, {7, 7, 0}, {7, 8, 1}, {7, 700, 0}, {7, 705, 5},
		{7, -1, 1}, {7, -2, 0}, {7, -3, 6}, {7, -9, 0},
		{3, -1, 0}, {3, -2, 2}, {3, -3, 1}, {5, -1, 0}, {5, -6, 0}, {5, -2, 4},
		{1, 0, 0}, {1, 1, 0}, {1, -1, 0}, {1, math.MinInt, 0}, {1, math.MaxInt, 0},
		{2, -1, 1}, {2, -2, 0}, {4, -1, 3}, {4, -4, 0}, {6, -1, 3}, {6, -4, 0},
		// 2^63 is 1 modulo 7 and 2 modulo 6; 2^63 - 1 is 0 and 1.
		{7, math.MaxInt, 0}, {7, math.MinInt, 1}, {6, math.MaxInt, 1}, {6, math.MinInt, 2},
	} {
		for _, by := range []byte{0, 1, 0x80, 0xff, 0x11} {
			want := slices.Clone(f[:c.size])
			want[c.place] ^= by
			if got := wire.Turn(f[:c.size], c.at, by); !bytes.Equal(got, want) {
				t.Errorf("%d bytes at %d by %x: %x, want %x", c.size, c.at, by, got, want)
			}
		}
	}
}

// P11.2: a great place is as far on, modulo how many there are, in whatever frame.
func TestTurnAnywhere(t *testing.T) {
	rnd := rand.New(rand.NewSource(3))
	for range 1000 {
		f := make([]byte, 1+rnd.Intn(40))
		rnd.Read(f)
		at, by := rnd.Uint64(), byte(rnd.Intn(256))
		want := slices.Clone(f)
		want[at%uint64(len(f))] ^= by
		got := wire.Turn(f, int(at), by)
		if !bytes.Equal(got, want) {
			t.Fatalf("%x at %d by %x: %x, want %x", f, int(at), by, got, want)
		}
		if again := wire.Turn(got, int(at), by); !bytes.Equal(again, f) {
			t.Fatalf("turned twice: %x, want %x", again, f)
		}
	}
}

// P11.2: of no bytes none, wherever and by whatever.
func TestTurnOfNothing(t *testing.T) {
	for _, f := range [][]byte{nil, {}, make([]byte, 0, 8)} {
		for _, at := range []int{0, 1, -1, math.MaxInt, math.MinInt} {
			if got := wire.Turn(f, at, 0xff); len(got) != 0 {
				t.Errorf("at %d: %x", at, got)
			}
		}
	}
}

// Rule 4: what is handed in is not changed, its spare room neither, and not kept.
func TestWhatIsHandedIn(t *testing.T) {
	room := bytes.Repeat([]byte{0xee}, 20)
	given := func() []byte { return append(bytes.Clone(room)[:0], "abc"...) }
	whole := append([]byte("abc"), room[3:]...)
	n := wire.New(1)
	f := given()
	send(t, n, 0, f, api.OK)
	wire.Turn(f, 1, 0xff)
	wire.Turn(f, 3, 0xff)
	if !bytes.Equal(f[:20], whole) {
		t.Errorf("changed: %x", f[:20])
	}
	copy(f, "XYZ")
	pick(t, n, 0, 0, []byte("abc"), api.OK)
	next(t, n, 0, []byte("abc"), api.OK)
}

// Rule 4: an answer is new memory, its spare room too.
func TestAnswersAreNew(t *testing.T) {
	n := wire.New(1)
	send(t, n, 0, []byte("abc"), api.OK)
	spoil := func(b []byte, _ api.Errno) {
		b = b[:cap(b)]
		for i := range b {
			b[i] = 0xee
		}
	}
	spoil(n.Pick(0, 0))
	pick(t, n, 0, 0, []byte("abc"), api.OK)
	spoil(n.Next(0))
	pick(t, n, 0, 0, []byte("abc"), api.OK)
	send(t, n, 0, []byte("def"), api.OK)
	spoil(n.Pick(0, 1))
	next(t, n, 0, []byte("def"), api.OK)
	f := []byte("xyz")
	spoil(wire.Turn(f, 0, 0), api.OK)
	if string(f) != "xyz" {
		t.Errorf("handed in: %q", f)
	}
}
