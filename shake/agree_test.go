package shake_test

import (
	"bytes"
	"fmt"
	"math/rand"
	"slices"
	"testing"

	"intaglio/api"
	"intaglio/shake"
	"intaglio/wire"
)

// crowd is clients with unlike peers and servers with unlike lives or conns, and all frames that ever went between them.
type crowd struct {
	*twin
	rnd      *rand.Rand
	clients  []*client
	servers  []*server
	took     map[*client][]byte // the answer that a client took
	finishes map[*client][]byte
	keys     map[*client]shake.Keys
	bag      [][]byte
	saw      map[string]int
}

func newCrowd(t *testing.T, seed int64, ideal bool) *crowd {
	rnd := rand.New(rand.NewSource(seed))
	return &crowd{twin: newTwin(t, ideal), rnd: rnd, took: map[*client][]byte{}, finishes: map[*client][]byte{}, keys: map[*client]shake.Keys{}, saw: map[string]int{}}
}

// random is random bytes, of which some come again.
func (r *crowd) random() [16]byte { return random(r.rnd.Intn(4)) }

// frame is a frame that somebody brings: one that was sent, also again, turned, cut, with another's end, or of no one.
func (r *crowd) frame() []byte {
	if len(r.bag) == 0 {
		return nil
	}
	one := r.bag[r.rnd.Intn(len(r.bag))]
	other := r.bag[r.rnd.Intn(len(r.bag))]
	switch r.rnd.Intn(12) {
	case 0:
		return wire.Turn(one, r.rnd.Intn(100), byte(1+r.rnd.Intn(255)))
	case 1:
		return one[:r.rnd.Intn(len(one)+1)]
	case 2:
		n := min(len(one), len(other), 32)
		return slices.Concat(one[:len(one)-n], other[len(other)-n:])
	case 3:
		out := make([]byte, []int{25, 33, 65}[r.rnd.Intn(3)])
		r.rnd.Read(out)
		out[0] = byte(r.rnd.Intn(5))
		return out
	}
	return one
}

// step is something that befalls the crowd.
func (r *crowd) step() {
	r.Helper()
	switch n := r.rnd.Intn(10); {
	case n < 2:
		r.clients = append(r.clients, r.dialled(len(r.clients), r.random()))
		r.bag = append(r.bag, r.clients[len(r.clients)-1].hello)
	case n < 5:
		life, conn := len(r.servers)/3, len(r.servers)%3
		if s, e := r.accept(life, conn, r.random(), r.frame()); e == api.OK {
			r.servers = append(r.servers, s)
			r.bag = append(r.bag, s.answer)
		}
	case n < 8 && len(r.clients) > 0:
		r.answer(pick(r, r.clients, func(c *client) bool { return !c.want.called && r.answerFor(c) != nil }), r.frame())
	case n < 10 && len(r.servers) > 0:
		r.finish(pick(r, r.servers, func(s *server) bool { return !s.want.called && r.finishFor(s) != nil }), r.frame())
	}
}

// pick is one of a list, mostly one for which it is the time.
func pick[S any](r *crowd, all []S, ready func(s S) bool) S {
	for {
		if one := all[r.rnd.Intn(len(all))]; ready(one) || r.rnd.Intn(30) == 0 {
			return one
		}
	}
}

// answerFor is an answer that is meant for a client, and finishFor a finish for a server; nil: there is none.
func (r *crowd) answerFor(c *client) []byte {
	for _, s := range r.servers {
		if bytes.Equal(s.want.hello, c.hello) {
			return s.answer
		}
	}
	return nil
}

func (r *crowd) finishFor(s *server) []byte {
	for _, c := range r.clients {
		if bytes.Equal(r.took[c], s.answer) {
			return r.finishes[c]
		}
	}
	return nil
}

// mostly is a frame that is meant for who takes it, or that turned, or another one.
func (r *crowd) mostly(meant, other []byte) []byte {
	switch r.rnd.Intn(6) {
	case 0:
		return wire.Turn(meant, r.rnd.Int(), byte(1+r.rnd.Intn(255)))
	case 1:
		return other
	}
	return meant
}

// answer hands a client a frame, often one that is meant for it.
func (r *crowd) answer(c *client, frame []byte) {
	r.Helper()
	if f := r.answerFor(c); f != nil {
		frame = r.mostly(f, frame)
	}
	finish, k, e := c.take(frame)
	r.saw[fmt.Sprint("answer ", e)]++
	if e == api.OK {
		r.took[c], r.finishes[c], r.keys[c] = frame, finish, k
		r.bag = append(r.bag, finish)
		r.hadHello(c)
	}
}

// hadHello asks for a server of a client's keys that had its hello, and whose answer this is.
func (r *crowd) hadHello(c *client) {
	r.Helper()
	for _, s := range r.servers {
		if (shake.Keys{Life: s.want.life, Conn: s.want.conn, Peer: c.want.peer}) == r.keys[c] {
			if !bytes.Equal(s.want.hello, c.hello) || !bytes.Equal(s.answer, r.took[c]) {
				r.Fatalf("%v: a client with another hello, or another answer", r.keys[c])
			}
			return
		}
	}
	r.Fatalf("%v: no server of these", r.keys[c])
}

// finish hands a server a frame, often one that is meant for it.
func (r *crowd) finish(s *server, frame []byte) {
	r.Helper()
	if f := r.finishFor(s); f != nil {
		frame = r.mostly(f, frame)
	}
	k, e := s.take(frame)
	r.saw[fmt.Sprint("finish ", e)]++
	if e == api.OK {
		r.hadAnswer(s, k)
	}
}

// hadAnswer asks for a client of a server's keys that had its answer.
func (r *crowd) hadAnswer(s *server, k shake.Keys) {
	r.Helper()
	for _, c := range r.clients {
		if r.keys[c] == k && bytes.Equal(r.took[c], s.answer) {
			return
		}
	}
	r.Fatalf("%v: no client of these had the answer", k)
}

// P22.4, P5: whatever frames come, in any order, doubled and turned: a server that finishes has the keys of a client that had its answer, a client that takes an answer has those of a server that had its hello.
func TestAgree(t *testing.T) {
	saw := map[string]int{}
	for seed := range int64(300) {
		r := newCrowd(t, seed, seed%5 > 0)
		r.saw = saw
		for range 120 {
			r.step()
		}
	}
	for _, what := range []string{"answer 0", "answer 3", "answer 6", "answer 12", "finish 0", "finish 3", "finish 6", "finish 12"} {
		if saw[what] < 100 {
			t.Errorf("not all was tried: %v", saw)
		}
	}
}

// P22.4: a hello that is brought twice begins two talks; the client finishes only that whose answer it took.
func TestHelloTwice(t *testing.T) {
	both(t, func(t *testing.T, ideal bool) {
		for which := range 2 {
			w := newTwin(t, ideal)
			c := w.dialled(0, random(1))
			both := [2]*server{w.accepted(1, 0, random(2), c.hello), w.accepted(1, 1, random(2), c.hello)}
			finish, k, e := c.take(both[which].answer)
			w.tells("answer", e, api.OK)
			if k != (shake.Keys{Life: 1, Conn: which}) {
				t.Error(k)
			}
			c.over(both[1-which].answer)
			both[1-which].refuses("of the other talk", finish, api.EAUTH)
			q, e := both[which].take(finish)
			w.tells("finish", e, api.OK)
			if q != k {
				t.Error(q)
			}
		}
	})
}

// P22.4: by the keys of both sides texts go, and by those of another talk none.
func TestKeysOfBothSides(t *testing.T) {
	both(t, func(t *testing.T, ideal bool) {
		w := newTwin(t, ideal)
		c := w.dialled(4, random(1))
		s := w.accepted(2, 3, random(2), c.hello)
		finish, k, _ := c.take(s.answer)
		q, _ := s.take(finish)
		b := newBox(ideal)
		for epoch := range 3 {
			for side := range 2 {
				sealed, e := b.Seal(k.ID(epoch, side), 0, nil, []byte("text"))
				if text, g := b.Open(q.ID(epoch, side), 0, nil, sealed); e != api.OK || g != api.OK || string(text) != "text" {
					t.Errorf("%d, %d, %q", e, g, text)
				}
				for _, id := range []api.KeyID{q.ID(epoch+1, side), q.ID(epoch, 1-side), shake.Keys{Life: 2, Conn: 4, Peer: 4}.ID(epoch, side)} {
					if _, e := b.Open(id, 0, nil, sealed); e != api.EAUTH {
						t.Errorf("%v: %d", id, e)
					}
				}
			}
		}
	})
}

// Rule 5: a talk hangs on nothing but what it was given.
func TestTalksAgain(t *testing.T) {
	both(t, func(t *testing.T, ideal bool) {
		var first [][]byte
		for range 3 {
			b := newBox(ideal)
			c, hello, _ := shake.Dial(b, 4, random(1))
			s, answer, _ := shake.Accept(b, 2, 3, random(2), hello)
			finish, _, _ := c.Answer(answer)
			s.Finish(finish)
			all := [][]byte{hello, answer, finish}
			if first == nil {
				first = all
			}
			if !slices.EqualFunc(first, all, bytes.Equal) {
				t.Errorf("%x, ahead %x", all, first)
			}
		}
	})
}

// Rule 4: frames that are handed in aren't changed, their spare room neither, nor kept; those that are answered are new memory.
func TestMemory(t *testing.T) {
	both(t, func(t *testing.T, ideal bool) {
		b := newBox(ideal)
		hand := func(frame []byte, take func(frame []byte)) {
			t.Helper()
			room := append(bytes.Clone(frame), "spare room of some bytes"...)
			ahead := bytes.Clone(room)
			take(room[:len(frame)])
			if !bytes.Equal(room, ahead) {
				t.Errorf("%x, ahead %x", room, ahead)
			}
			clear(room)
		}
		spoil := func(frame []byte) []byte {
			out := bytes.Clone(frame)
			clear(frame[:cap(frame)])
			return out
		}
		c, hello, _ := shake.Dial(b, 4, random(1))
		hello = spoil(hello)
		var s *shake.Server
		var answer, finish []byte
		hand(hello, func(frame []byte) { s, answer, _ = shake.Accept(b, 2, 3, random(2), frame) })
		answer = spoil(answer)
		var e api.Errno
		hand(answer, func(frame []byte) { finish, _, e = c.Answer(frame) })
		if e != api.OK {
			t.Error(e)
		}
		finish = spoil(finish)
		hand(finish, func(frame []byte) { _, e = s.Finish(frame) })
		if e != api.OK {
			t.Error(e)
		}
		// With an error nothing is changed either.
		hand(make([]byte, 25), func(frame []byte) { shake.Accept(b, 2, 3, random(2), frame) })
		c, _, _ = shake.Dial(b, 4, random(1))
		hand(answer, func(frame []byte) { c.Answer(frame) })
		s, _, _ = shake.Accept(b, 2, 3, random(2), hello)
		hand(finish, func(frame []byte) { s.Finish(frame) })
	})
}
