package shake_test

import (
	"bytes"
	"testing"

	"intaglio/api"
	"intaglio/box"
	"intaglio/shake"
)

// twin is two boxes of one secret and kind: by the first one the program is asked, by the second one the plain sides. Both must tell the same.
type twin struct {
	*testing.T
	got, want *box.Box
}

func newTwin(t *testing.T, ideal bool) *twin { return &twin{t, newBox(ideal), newBox(ideal)} }

// client and server are a side, and the plain one.
type client struct {
	w     *twin
	got   *shake.Client
	want  *plainClient
	hello []byte
}

type server struct {
	w      *twin
	got    *shake.Server
	want   *plainServer
	answer []byte
}

// same asks that a call told what the plain one told, and that nothing was sealed.
func (w *twin) same(what string, got, want []byte, k, wantKeys shake.Keys, e, wantError api.Errno) {
	w.Helper()
	if e != wantError || k != wantKeys || !bytes.Equal(got, want) {
		w.Fatalf("%s: %d, %v, %x, want %d, %v, %x", what, e, k, got, wantError, wantKeys, want)
	}
	if w.got.Sealed() != 0 || w.got.Repeats() != 0 {
		w.Fatalf("%s: %d sealed", what, w.got.Sealed())
	}
	// A ledger tells by its next mark how many there were: none was made but those of the chapter.
	if a, b := nonce(w.got), nonce(w.want); !bytes.Equal(a, b) {
		w.Fatalf("%s: the next mark is %x, want %x", what, a, b)
	}
}

// dial begins; nil behind an error.
func (w *twin) dial(peer int, rand [16]byte) (*client, api.Errno) {
	w.Helper()
	c, hello, e := shake.Dial(w.got, peer, rand)
	p, want, e2 := plainDial(w.want, peer, rand)
	w.same("dial", hello, want, shake.Keys{}, shake.Keys{}, e, e2)
	if (c == nil) != (e != api.OK) {
		w.Fatalf("dial: %d, client %v", e, c)
	}
	if e != api.OK {
		return nil, e
	}
	return &client{w, c, p, hello}, e
}

// accept answers a hello; nil behind an error.
func (w *twin) accept(life, conn int, rand [16]byte, frame []byte) (*server, api.Errno) {
	w.Helper()
	s, answer, e := shake.Accept(w.got, life, conn, rand, frame)
	p, want, e2 := plainAccept(w.T, w.want, life, conn, rand, frame)
	w.same("accept", answer, want, shake.Keys{}, shake.Keys{}, e, e2)
	if (s == nil) != (e != api.OK) {
		w.Fatalf("accept: %d, server %v", e, s)
	}
	if e != api.OK {
		return nil, e
	}
	return &server{w, s, p, answer}, e
}

// take hands a client an answer.
func (c *client) take(frame []byte) ([]byte, shake.Keys, api.Errno) {
	c.w.Helper()
	finish, k, e := c.got.Answer(frame)
	want, k2, e2 := c.want.answer(c.w.T, frame)
	c.w.same("answer", finish, want, k, k2, e, e2)
	return finish, k, e
}

// take hands a server a finish.
func (s *server) take(frame []byte) (shake.Keys, api.Errno) {
	s.w.Helper()
	k, e := s.got.Finish(frame)
	k2, e2 := s.want.finish(frame)
	s.w.same("finish", nil, nil, k, k2, e, e2)
	return k, e
}

// tells asks that a call told this.
func (w *twin) tells(what string, got, want api.Errno) {
	w.Helper()
	if got != want {
		w.Fatalf("%s: %d, want %d", what, got, want)
	}
}

// dialled is a client that began.
func (w *twin) dialled(peer int, rand [16]byte) *client {
	w.Helper()
	c, e := w.dial(peer, rand)
	w.tells("dial", e, api.OK)
	return c
}

// accepted is a server that answered.
func (w *twin) accepted(life, conn int, rand [16]byte, hello []byte) *server {
	w.Helper()
	s, e := w.accept(life, conn, rand, hello)
	w.tells("accept", e, api.OK)
	return s
}

// refuses asks a client for an error, and for ESTATE behind it, whatever comes.
func (c *client) refuses(what string, frame []byte, want api.Errno) {
	c.w.Helper()
	_, _, e := c.take(frame)
	c.w.tells(what, e, want)
	c.over(frame)
}

// over asks that a client was called.
func (c *client) over(frames ...[]byte) {
	c.w.Helper()
	for _, f := range append(frames, nil, []byte{2}, make([]byte, 65), c.hello) {
		_, _, e := c.take(f)
		c.w.tells("called again", e, api.ESTATE)
	}
}

// refuses asks a server for an error, and for ESTATE behind it, whatever comes.
func (s *server) refuses(what string, frame []byte, want api.Errno) {
	s.w.Helper()
	_, e := s.take(frame)
	s.w.tells(what, e, want)
	s.over(frame)
}

// over asks that a server was called.
func (s *server) over(frames ...[]byte) {
	s.w.Helper()
	for _, f := range append(frames, nil, []byte{3}, make([]byte, 33), s.answer) {
		_, e := s.take(f)
		s.w.tells("called again", e, api.ESTATE)
	}
}
