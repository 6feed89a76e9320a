package shake_test

import (
	"bytes"
	"slices"
	"testing"

	"intaglio/api"
	"intaglio/shake"
)

// P22.3: an answer is a byte 2, life and conn, the random bytes, and a mark.
func TestFormOfAnAnswer(t *testing.T) {
	rand := [16]byte{1, 2, 3, 4, 5, 6, 7, 8, 9, 10, 11, 12, 13, 14, 15, 16}
	hello := helloOf(5, random(1))
	_, answer, e := shake.Accept(newBox(true), 0x0102030405, 7, rand, hello)
	want := []byte{2, 0, 0, 0, 1, 2, 3, 4, 5, 0, 0, 0, 0, 0, 0, 0, 7, 1, 2, 3, 4, 5, 6, 7, 8, 9, 10, 11, 12, 13, 14, 15, 16}
	// The first mark of an ideal box is of the number 0.
	if e != api.OK || !bytes.Equal(answer, append(bytes.Clone(want), make([]byte, 32)...)) {
		t.Errorf("%d, %x", e, answer)
	}
	_, answer, e = shake.Accept(newBox(false), 0x0102030405, 7, rand, hello)
	mark, _ := newBox(false).Mark(api.KeyID{Label: api.KHello, Life: 0x0102030405, Num: 7, Side: 1, Peer: 5}, slices.Concat([]byte{0, 0, 0, 25}, hello, []byte{0, 0, 0, 33}, want))
	if e != api.OK || !bytes.Equal(answer, append(want, mark...)) {
		t.Errorf("%d, %x", e, answer)
	}
}

// P22.3: a life or a conn that may not be is told ahead of a frame that is no hello, a box that no call made ahead of both.
func TestWrongLivesAndConns(t *testing.T) {
	frames := [][]byte{nil, {1}, make([]byte, 25), helloOf(most+1, random(1)), helloOf(5, random(1))}
	both(t, func(t *testing.T, ideal bool) {
		w := newTwin(t, ideal)
		for _, frame := range frames {
			for _, wrong := range wrongNumbers() {
				for _, other := range append(goodNumbers(), wrongNumbers()...) {
					_, e := w.accept(wrong, other, random(1), frame)
					w.tells("accept", e, api.EARG)
					_, e = w.accept(other, wrong, random(1), frame)
					w.tells("accept", e, api.EARG)
				}
			}
		}
	})
	for what, b := range noBoxes() {
		for _, frame := range frames {
			for _, life := range []int{0, 1, most, most + 1, -1} {
				for _, conn := range []int{0, 1, most, most + 1, -1} {
					if s, answer, e := shake.Accept(b, life, conn, random(1), frame); s != nil || len(answer) != 0 || e != api.ENIL {
						t.Errorf("%s, %d, %d: %v, %x, %d", what, life, conn, s, answer, e)
					}
				}
			}
		}
	}
}

// P22.3: each hello is answered, at the bounds too, whoever made it.
func TestHellosOfAll(t *testing.T) {
	both(t, func(t *testing.T, ideal bool) {
		w := newTwin(t, ideal)
		for _, peer := range goodNumbers() {
			for _, life := range goodNumbers() {
				for _, conn := range goodNumbers() {
					w.accepted(life, conn, random(peer), helloOf(uint64(peer), random(life)))
				}
			}
		}
	})
}

// P22.3: a frame of another length, with another first byte, or a number above 2^40, is no hello.
func TestNoHellos(t *testing.T) {
	both(t, func(t *testing.T, ideal bool) {
		w := newTwin(t, ideal)
		hello := helloOf(5, random(1))
		refuses := func(what string, frame []byte) {
			t.Helper()
			_, e := w.accept(1, 2, random(1), frame)
			w.tells(what, e, api.EFORM)
		}
		for _, n := range append(seq(0, 70), 1000, 1<<16, 1<<17) {
			if n != 25 {
				refuses("another length", bytes.Repeat(hello, n/25+1)[:n])
			}
			if n < 25 {
				refuses("cut ahead", hello[25-n:])
			}
		}
		for first := range 256 {
			frame := append([]byte{byte(first)}, hello[1:]...)
			if first == 1 {
				w.accepted(1, 2, random(1), frame)
			} else {
				refuses("another first byte", frame)
			}
		}
		for _, peer := range []uint64{most + 1, most + 2, 1 << 41, 1 << 48, 1<<63 - 1, 1 << 63, 1<<63 + 5, 1<<64 - 1} {
			refuses("a number above", helloOf(peer, random(1)))
		}
		for _, frame := range [][]byte{nil, {}, {1}, make([]byte, 25), answerOf(1, 2, random(1)), answerOf(1, 2, random(1))[:25]} {
			refuses("another frame", frame)
		}
	})
}

// P22.3: a turned hello is another hello, or none; its answer is not right of the one that was dialled.
func TestTurnedHellos(t *testing.T) {
	both(t, func(t *testing.T, ideal bool) {
		w := newTwin(t, ideal)
		for at := range 25 {
			for _, by := range []byte{1, 2, 4, 8, 16, 32, 64, 128, 255} {
				c := w.dialled(9, random(1))
				frame := bytes.Clone(c.hello)
				frame[at] ^= by
				s, e := w.accept(7, 8, random(2), frame)
				_, ok := number(frame[1:])
				if at == 0 || !ok {
					w.tells("turned", e, api.EFORM)
					continue
				}
				w.tells("turned", e, api.OK)
				c.refuses("of a turned hello", s.answer, api.EAUTH)
			}
		}
	})
}

// agreed is a server, and a finish that is right for it.
func agreed(w *twin) (*server, []byte) {
	w.Helper()
	c := w.dialled(9, random(1))
	s := w.accepted(7, 8, random(2), c.hello)
	finish, _, e := c.take(s.answer)
	w.tells("answer", e, api.OK)
	return s, finish
}

// P22.3: a finish is taken once, and has 33 bytes, of which the first is 3.
func TestFinish(t *testing.T) {
	both(t, func(t *testing.T, ideal bool) {
		w := newTwin(t, ideal)
		for _, n := range append(seq(0, 70), 1000, 1<<17) {
			s, finish := agreed(w)
			frame := bytes.Repeat(finish, n/33+1)[:n]
			if n == 33 {
				k, e := s.take(frame)
				if e != api.OK || k != (shake.Keys{Life: 7, Conn: 8, Peer: 9}) {
					t.Fatalf("%d, %v", e, k)
				}
				s.over(frame, finish)
				continue
			}
			s.refuses("another length", frame, api.EFORM)
			s.over(finish)
			if n < 33 {
				s, finish = agreed(w)
				s.refuses("cut ahead", finish[33-n:], api.EFORM)
			}
		}
		for first := range 256 {
			s, finish := agreed(w)
			finish[0] = byte(first)
			if first == 3 {
				_, e := s.take(finish)
				w.tells("first byte 3", e, api.OK)
			} else {
				s.refuses("another first byte", finish, api.EFORM)
			}
		}
	})
}

// P22.3: a finish with any bit turned is none, or its mark is not right.
func TestTurnedFinishes(t *testing.T) {
	both(t, func(t *testing.T, ideal bool) {
		w := newTwin(t, ideal)
		for at := range 33 {
			for _, by := range []byte{1, 2, 4, 8, 16, 32, 64, 128, 255} {
				s, finish := agreed(w)
				finish[at] ^= by
				want := api.EAUTH
				if at == 0 {
					want = api.EFORM
				}
				s.refuses("turned", finish, want)
			}
		}
	})
}

// P22.3: a finish of others is not right: of a client with another number, other random bytes, of a server with other numbers, or other random bytes.
func TestFinishesOfOthers(t *testing.T) {
	both(t, func(t *testing.T, ideal bool) {
		w := newTwin(t, ideal)
		for _, o := range []struct {
			peer, life, conn, rand, rand2 int
		}{{8, 7, 8, 1, 2}, {9, 6, 8, 1, 2}, {9, 7, 9, 1, 2}, {9, 7, 8, 3, 2}, {9, 7, 8, 1, 3}, {9, 8, 7, 1, 2}} {
			s, _ := agreed(w)
			c := w.dialled(o.peer, random(o.rand))
			other := w.accepted(o.life, o.conn, random(o.rand2), c.hello)
			finish, _, e := c.take(other.answer)
			w.tells("answer", e, api.OK)
			s.refuses("another's finish", finish, api.EAUTH)
			_, e = other.take(finish)
			w.tells("its own", e, api.OK)
		}
		// The answer's mark is no finish's.
		s, _ := agreed(w)
		s.refuses("the answer's mark", append([]byte{3}, s.answer[33:]...), api.EAUTH)
		s, _ = agreed(w)
		s.refuses("bytes 0", append([]byte{3}, make([]byte, 32)...), api.EAUTH)
	})
}

// P22.3: a finish's mark is by its own id and text alone.
func TestMarksOfFinishes(t *testing.T) {
	both(t, func(t *testing.T, ideal bool) {
		w := newTwin(t, ideal)
		hello := helloOf(9, random(1))
		try := func(what string, id api.KeyID, text func(answer []byte) []byte, want api.Errno) {
			t.Helper()
			s := w.accepted(7, 8, random(2), hello)
			mark, _ := w.got.Mark(id, text(s.answer))
			w.want.Mark(id, text(s.answer))
			_, e := s.take(append([]byte{3}, mark...))
			w.tells(what, e, want)
			s.over()
		}
		right := func(answer []byte) []byte { return slices.Concat(put(hello), put(answer)) }
		try("the right one", finishID(7, 8, 9), right, api.OK)
		for i := range 6 {
			id := finishID(7, 8, 9)
			*[]*int{&id.Label, &id.Epoch, &id.Life, &id.Num, &id.Side, &id.Peer}[i] ^= 1
			try("another id", id, right, api.EAUTH)
		}
		try("the answer's id", helloID(7, 8, 9), right, api.EAUTH)
		for what, text := range map[string]func(answer []byte) []byte{
			"nothing":                    func(answer []byte) []byte { return nil },
			"no lengths":                 func(answer []byte) []byte { return slices.Concat(hello, answer) },
			"the other order":            func(answer []byte) []byte { return slices.Concat(put(answer), put(hello)) },
			"no hello":                   func(answer []byte) []byte { return put(answer) },
			"the hello alone":            func(answer []byte) []byte { return put(hello) },
			"an answer without its mark": func(answer []byte) []byte { return slices.Concat(put(hello), put(answer[:33])) },
			"a byte more":                func(answer []byte) []byte { return slices.Concat(put(hello), put(answer), []byte{0}) },
			"another hello, as long":     func(answer []byte) []byte { return slices.Concat(put(helloOf(9, random(2))), put(answer)) },
			"an answer of another's mark": func(answer []byte) []byte {
				return slices.Concat(put(hello), put(append(bytes.Clone(answer[:33]), make([]byte, 32)...)))
			},
		} {
			try(what, finishID(7, 8, 9), text, api.EAUTH)
		}
	})
}

// P22.3: each server has its own talk: what one was told is not the other's.
func TestServersBeside(t *testing.T) {
	both(t, func(t *testing.T, ideal bool) {
		w := newTwin(t, ideal)
		c := w.dialled(9, random(1))
		var all []*server
		for n := range 5 {
			all = append(all, w.accepted(1, n, random(2), c.hello))
		}
		finish, k, e := c.take(all[3].answer)
		w.tells("answer", e, api.OK)
		if k != (shake.Keys{Life: 1, Conn: 3, Peer: 9}) {
			t.Error(k)
		}
		for n, s := range all {
			if n != 3 {
				s.refuses("another's finish", finish, api.EAUTH)
			}
		}
		q, e := all[3].take(finish)
		w.tells("finish", e, api.OK)
		if q != k {
			t.Error(q)
		}
	})
}

// Rule 6, P22.3: a server that no call made.
func TestNoServers(t *testing.T) {
	w := newTwin(t, true)
	_, finish := agreed(w)
	for what, s := range noServers() {
		for range 2 {
			for _, frame := range [][]byte{nil, {3}, make([]byte, 33), finish} {
				if k, e := s.Finish(frame); k != (shake.Keys{}) || e != api.ENIL {
					t.Errorf("%s: %v, %d", what, k, e)
				}
			}
		}
	}
}
