package shake_test

import (
	"bytes"
	"slices"
	"testing"

	"intaglio/api"
	"intaglio/box"
	"intaglio/shake"
)

// P22.2: a hello is a byte 1, the peer's number and the random bytes.
func TestHello(t *testing.T) {
	both(t, func(t *testing.T, ideal bool) {
		b := newBox(ideal)
		rand := [16]byte{1, 2, 3, 4, 5, 6, 7, 8, 9, 10, 11, 12, 13, 14, 15, 16}
		_, hello, e := shake.Dial(b, 0x0102030405, rand)
		want := []byte{1, 0, 0, 0, 1, 2, 3, 4, 5, 1, 2, 3, 4, 5, 6, 7, 8, 9, 10, 11, 12, 13, 14, 15, 16}
		if e != api.OK || !bytes.Equal(hello, want) || len(hello) != 25 {
			t.Errorf("%d, %x", e, hello)
		}
		w := newTwin(t, ideal)
		for _, peer := range goodNumbers() {
			for n := range 3 {
				w.dialled(peer, random(n))
			}
		}
		w.dialled(3, [16]byte{})
		// What one may be told twice, with the same numbers.
		w.dialled(3, [16]byte{})
	})
}

// P22.2: a peer that may not be.
func TestWrongPeers(t *testing.T) {
	both(t, func(t *testing.T, ideal bool) {
		w := newTwin(t, ideal)
		for _, peer := range wrongNumbers() {
			_, e := w.dial(peer, random(1))
			w.tells("dial", e, api.EARG)
		}
	})
}

// P22.2: a box that no call made is told ahead of a peer that may not be.
func TestDialByNoBox(t *testing.T) {
	for what, b := range noBoxes() {
		for _, peer := range append(goodNumbers(), wrongNumbers()...) {
			if c, hello, e := shake.Dial(b, peer, random(1)); c != nil || len(hello) != 0 || e != api.ENIL {
				t.Errorf("%s, %d: %v, %x, %d", what, peer, c, hello, e)
			}
		}
	}
}

// P22.2: an answer is taken, a finish made, and both have the keys.
func TestAnswer(t *testing.T) {
	both(t, func(t *testing.T, ideal bool) {
		w := newTwin(t, ideal)
		n := 0
		for _, peer := range goodNumbers() {
			for _, life := range goodNumbers() {
				conn := goodNumbers()[n%len(goodNumbers())]
				n++
				c := w.dialled(peer, random(n))
				s := w.accepted(life, conn, random(n+1), c.hello)
				finish, k, e := c.take(s.answer)
				if e != api.OK || k != (shake.Keys{Life: life, Conn: conn, Peer: peer}) || len(finish) != 33 || finish[0] != 3 {
					t.Fatalf("%d, %v, %x", e, k, finish)
				}
				c.over(s.answer, finish)
				if q, e := s.take(finish); e != api.OK || q != k {
					t.Fatalf("%d, %v, want %v", e, q, k)
				}
				s.over(finish)
			}
		}
	})
}

// asked is a client, and an answer that is right for it.
func asked(w *twin) (*client, []byte) {
	w.Helper()
	c := w.dialled(9, random(1))
	return c, w.accepted(7, 8, random(2), c.hello).answer
}

// P22.2: a frame of another length is no answer, whatever it begins with.
func TestAnswersOfAnyLength(t *testing.T) {
	both(t, func(t *testing.T, ideal bool) {
		w := newTwin(t, ideal)
		for _, n := range append(seq(0, 140), 321, 1<<16, 1<<17) {
			c, answer := asked(w)
			frame := append(answer, bytes.Repeat(answer, n/65+1)...)[:n]
			want := api.EFORM
			if n == 65 {
				want = api.OK
			}
			_, _, e := c.take(frame)
			w.tells("answer", e, want)
			c.over(frame, answer)
			if n < 65 {
				// Cut ahead too: the mark stands at its end.
				c, answer = asked(w)
				c.refuses("cut ahead", answer[65-n:], api.EFORM)
			}
		}
	})
}

// seq is the numbers from a to b.
func seq(a, b int) (out []int) {
	for n := a; n <= b; n++ {
		out = append(out, n)
	}
	return out
}

// P22.2: the first byte of an answer is 2, also where who has the secret marked another.
func TestFirstByteOfAnswers(t *testing.T) {
	both(t, func(t *testing.T, ideal bool) {
		w := newTwin(t, ideal)
		for first := range 256 {
			c := w.dialled(9, random(1))
			frame := forged(w, c, byte(first), 7, 8)
			if first == 2 {
				_, _, e := c.take(frame)
				w.tells("first byte 2", e, api.OK)
				c.over(frame)
			} else {
				c.refuses("another first byte", frame, api.EFORM)
			}
		}
	})
}

// forged is an answer to a client, as one makes it who has both boxes; where there can be no such mark it is of bytes 0.
func forged(w *twin, c *client, first byte, life, conn uint64) []byte {
	w.Helper()
	frame := answerOf(life, conn, random(3))
	frame[0] = first
	text := slices.Concat(put(c.hello), put(frame))
	mark, e := w.got.Mark(helloID(int(life), int(conn), c.want.peer), text)
	w.want.Mark(helloID(int(life), int(conn), c.want.peer), text)
	if e != api.OK {
		mark = make([]byte, 32)
	}
	return append(frame, mark...)
}

// P22.2: an answer's numbers are up to 2^40.
func TestNumbersOfAnswers(t *testing.T) {
	both(t, func(t *testing.T, ideal bool) {
		w := newTwin(t, ideal)
		good := []uint64{0, 1, most - 1, most}
		wrong := []uint64{most + 1, most + 2, 1 << 41, 1 << 48, 1<<63 - 1, 1 << 63, 1<<63 + 5, 1<<64 - 1}
		for _, life := range append(good, wrong...) {
			for _, conn := range append(good, wrong...) {
				c := w.dialled(9, random(1))
				frame := forged(w, c, 2, life, conn)
				if life > most || conn > most {
					c.refuses("numbers above", frame, api.EFORM)
					continue
				}
				_, k, e := c.take(frame)
				if e != api.OK || k != (shake.Keys{Life: int(life), Conn: int(conn), Peer: 9}) {
					t.Fatalf("%d, %d: %d, %v", life, conn, e, k)
				}
			}
		}
	})
}

// P22.2: an answer with any bit turned is no answer, or its mark is not right.
func TestTurnedAnswers(t *testing.T) {
	both(t, func(t *testing.T, ideal bool) {
		w := newTwin(t, ideal)
		for at := range 65 {
			for _, by := range []byte{1, 2, 4, 8, 16, 32, 64, 128, 255} {
				c, answer := asked(w)
				answer[at] ^= by
				want := api.EAUTH
				_, ok := number(answer[1:])
				_, ok2 := number(answer[9:])
				if at == 0 || !ok || !ok2 {
					want = api.EFORM
				}
				c.refuses("turned", answer, want)
			}
		}
	})
}

// P22.2: an answer to another hello, by other numbers, or of another secret is not right.
func TestAnswersOfOthers(t *testing.T) {
	both(t, func(t *testing.T, ideal bool) {
		w := newTwin(t, ideal)
		for _, other := range []*client{w.dialled(9, random(2)), w.dialled(8, random(1)), w.dialled(0, random(7))} {
			c, _ := asked(w)
			c.refuses("of another hello", w.accepted(7, 8, random(2), other.hello).answer, api.EAUTH)
		}
		// Another server's mark, behind this one's numbers; and this one's, behind another's.
		for _, numbers := range [][2]int{{6, 8}, {7, 9}, {8, 7}, {0, 0}, {most, most}} {
			c, answer := asked(w)
			other := w.accepted(numbers[0], numbers[1], random(2), c.hello).answer
			c.refuses("another's mark", append(bytes.Clone(answer[:33]), other[33:]...), api.EAUTH)
			c, answer = asked(w)
			c.refuses("behind another's numbers", append(bytes.Clone(other[:33]), answer[33:]...), api.EAUTH)
		}
		c, answer := asked(w)
		c.refuses("behind other random bytes", append(answerOf(7, 8, random(5)), answer[33:]...), api.EAUTH)
	})
	c, hello, _ := shake.Dial(newBox(false), 9, random(1))
	_, answer, _ := shake.Accept(box.New([]byte("another"), false), 7, 8, random(2), hello)
	if f, k, e := c.Answer(answer); e != api.EAUTH || len(f) != 0 || k != (shake.Keys{}) {
		t.Errorf("of another secret: %x, %v, %d", f, k, e)
	}
	// Of an ideal box another one's marks may look alike: such a ledger has none of them.
	c, hello, _ = shake.Dial(newBox(true), 9, random(1))
	_, answer, _ = shake.Accept(newBox(true), 7, 8, random(2), hello)
	if f, k, e := c.Answer(answer); e != api.EAUTH || len(f) != 0 || k != (shake.Keys{}) {
		t.Errorf("of another ledger: %x, %v, %d", f, k, e)
	}
}

// P22.2: an answer's mark is by its own id and text alone: marks of the same secret by others are not right.
func TestMarksOfAnswers(t *testing.T) {
	both(t, func(t *testing.T, ideal bool) {
		w := newTwin(t, ideal)
		body := answerOf(7, 8, random(2))
		try := func(what string, id api.KeyID, text func(hello []byte) []byte, want api.Errno) {
			t.Helper()
			c := w.dialled(9, random(1))
			mark, _ := w.got.Mark(id, text(c.hello))
			w.want.Mark(id, text(c.hello))
			_, _, e := c.take(append(bytes.Clone(body), mark...))
			w.tells(what, e, want)
			c.over()
		}
		right := func(hello []byte) []byte { return slices.Concat(put(hello), put(body)) }
		try("the right one", helloID(7, 8, 9), right, api.OK)
		for i := range 6 {
			id := helloID(7, 8, 9)
			*[]*int{&id.Label, &id.Epoch, &id.Life, &id.Num, &id.Side, &id.Peer}[i] ^= 1
			try("another id", id, right, api.EAUTH)
		}
		try("the finish's id", finishID(7, 8, 9), right, api.EAUTH)
		for what, text := range map[string]func(hello []byte) []byte{
			"nothing":         func(hello []byte) []byte { return nil },
			"no lengths":      func(hello []byte) []byte { return slices.Concat(hello, body) },
			"the other order": func(hello []byte) []byte { return slices.Concat(put(body), put(hello)) },
			"no hello":        func(hello []byte) []byte { return put(body) },
			"the hello alone": func(hello []byte) []byte { return put(hello) },
			"in one":          func(hello []byte) []byte { return put(slices.Concat(hello, body)) },
			"a byte more":     func(hello []byte) []byte { return slices.Concat(put(hello), put(body), []byte{0}) },
		} {
			try(what, helloID(7, 8, 9), text, api.EAUTH)
		}
	})
}

// P22.2: frames of other kinds are no answers.
func TestOtherFramesAsAnswers(t *testing.T) {
	both(t, func(t *testing.T, ideal bool) {
		w := newTwin(t, ideal)
		c, answer := asked(w)
		finish, _, _ := c.take(answer)
		for _, frame := range [][]byte{c.hello, finish, nil, {}, {2}, append(finish, finish...)} {
			c, _ := asked(w)
			c.refuses("another frame", frame, api.EFORM)
		}
	})
}

// Rule 6, P22.2: a client that no call made.
func TestNoClients(t *testing.T) {
	w := newTwin(t, true)
	_, answer := asked(w)
	for what, c := range noClients() {
		for range 2 {
			for _, frame := range [][]byte{nil, {2}, make([]byte, 65), answer} {
				if f, k, e := c.Answer(frame); len(f) != 0 || k != (shake.Keys{}) || e != api.ENIL {
					t.Errorf("%s: %x, %v, %d", what, f, k, e)
				}
			}
		}
	}
}
