package shake_test

import (
	"bytes"
	"encoding/binary"
	"math"
	"slices"
	"testing"

	"intaglio/api"
	"intaglio/box"
	"intaglio/shake"
)

const most = 1 << 40

// random is sixteen bytes all of which hang on n.
func random(n int) (out [16]byte) {
	for i := range out {
		out[i] = byte(n*17 + i*3 + 1)
	}
	return out
}

// newBox is a box of a secret that all have.
func newBox(ideal bool) *box.Box { return box.New([]byte("secret"), ideal) }

// both does something with boxes of each kind.
func both(t *testing.T, do func(t *testing.T, ideal bool)) {
	t.Helper()
	t.Run("real", func(t *testing.T) { do(t, false) })
	t.Run("ideal", func(t *testing.T) { do(t, true) })
}

// noBoxes are boxes that New did not make.
func noBoxes() map[string]*box.Box {
	return map[string]*box.Box{"nil": nil, "new": new(box.Box), "zero": {}}
}

// noClients are clients that Dial did not make; noServers, servers that Accept did not make.
func noClients() map[string]*shake.Client {
	return map[string]*shake.Client{"nil": nil, "new": new(shake.Client), "zero": {}}
}

func noServers() map[string]*shake.Server {
	return map[string]*shake.Server{"nil": nil, "new": new(shake.Server), "zero": {}}
}

// goodNumbers may be a peer, a life or a conn; wrongNumbers may not.
func goodNumbers() []int { return []int{0, 1, 2, 255, 256, 1<<32 - 1, 1 << 32, most - 1, most} }

func wrongNumbers() []int {
	return []int{-1, -2, -most, math.MinInt, math.MinInt + 1, most + 1, most + 2, 2 * most, math.MaxInt}
}

// may tells whether numbers may be of keys.
func may(numbers ...int) bool {
	return !slices.ContainsFunc(numbers, func(n int) bool { return n < 0 || n > most })
}

// num is a number as eight bytes, the highest first.
func num(n uint64) []byte { return binary.BigEndian.AppendUint64(nil, n) }

// put is a text, its length ahead.
func put(text []byte) []byte {
	return append(binary.BigEndian.AppendUint32(nil, uint32(len(text))), text...)
}

// helloOf is a hello's bytes; answerOf, an answer's without its mark.
func helloOf(peer uint64, rand [16]byte) []byte {
	return slices.Concat([]byte{1}, num(peer), rand[:])
}

func answerOf(life, conn uint64, rand [16]byte) []byte {
	return slices.Concat([]byte{2}, num(life), num(conn), rand[:])
}

// helloID and finishID are the ids of an answer's mark, and of a finish's.
func helloID(life, conn, peer int) api.KeyID {
	return api.KeyID{Label: 4, Epoch: 0, Life: life, Num: conn, Side: 1, Peer: peer}
}

func finishID(life, conn, peer int) api.KeyID {
	return api.KeyID{Label: 5, Epoch: 0, Life: life, Num: conn, Side: 0, Peer: peer}
}

// markOf is a box's mark of two frames.
func markOf(t *testing.T, b *box.Box, id api.KeyID, first, second []byte) []byte {
	t.Helper()
	mark, e := b.Mark(id, slices.Concat(put(first), put(second)))
	if e != api.OK {
		t.Fatalf("%v: %d", id, e)
	}
	return mark
}

// plainClient and plainServer are both sides by the chapter's words.
type plainClient struct {
	b      *box.Box
	peer   int
	hello  []byte
	called bool
}

type plainServer struct {
	b                *box.Box
	life, conn, peer int
	hello, answer    []byte
	called           bool
}

// made tells whether New made a box.
func made(b *box.Box) bool { return b != nil && b.Check(api.KeyID{Label: 1}, nil, nonce(b)) }

// nonce is a mark of nothing: it tells by being right that the box is one that New made.
func nonce(b *box.Box) []byte {
	mark, _ := b.Mark(api.KeyID{Label: 1}, nil)
	return mark
}

// number is the number of eight bytes of a frame; false: it is above 2^40.
func number(frame []byte) (int, bool) {
	n := binary.BigEndian.Uint64(frame)
	return int(n), n <= most
}

func plainDial(b *box.Box, peer int, rand [16]byte) (*plainClient, []byte, api.Errno) {
	if !may(peer) {
		return nil, nil, api.EARG
	}
	hello := helloOf(uint64(peer), rand)
	return &plainClient{b: b, peer: peer, hello: hello}, hello, api.OK
}

func (c *plainClient) answer(t *testing.T, frame []byte) ([]byte, shake.Keys, api.Errno) {
	t.Helper()
	if c.called {
		return nil, shake.Keys{}, api.ESTATE
	}
	c.called = true
	if len(frame) != 65 || frame[0] != 2 {
		return nil, shake.Keys{}, api.EFORM
	}
	life, ok := number(frame[1:])
	conn, ok2 := number(frame[9:])
	if !ok || !ok2 {
		return nil, shake.Keys{}, api.EFORM
	}
	if !c.b.Check(helloID(life, conn, c.peer), slices.Concat(put(c.hello), put(frame[:33])), frame[33:]) {
		return nil, shake.Keys{}, api.EAUTH
	}
	finish := append([]byte{3}, markOf(t, c.b, finishID(life, conn, c.peer), c.hello, frame)...)
	return finish, shake.Keys{Life: life, Conn: conn, Peer: c.peer}, api.OK
}

func plainAccept(t *testing.T, b *box.Box, life, conn int, rand [16]byte, frame []byte) (*plainServer, []byte, api.Errno) {
	t.Helper()
	if !may(life, conn) {
		return nil, nil, api.EARG
	}
	if len(frame) != 25 || frame[0] != 1 {
		return nil, nil, api.EFORM
	}
	peer, ok := number(frame[1:])
	if !ok {
		return nil, nil, api.EFORM
	}
	unmarked := answerOf(uint64(life), uint64(conn), rand)
	answer := slices.Concat(unmarked, markOf(t, b, helloID(life, conn, peer), frame, unmarked))
	return &plainServer{b: b, life: life, conn: conn, peer: peer, hello: bytes.Clone(frame), answer: answer}, answer, api.OK
}

func (s *plainServer) finish(frame []byte) (shake.Keys, api.Errno) {
	if s.called {
		return shake.Keys{}, api.ESTATE
	}
	s.called = true
	if len(frame) != 33 || frame[0] != 3 {
		return shake.Keys{}, api.EFORM
	}
	if !s.b.Check(finishID(s.life, s.conn, s.peer), slices.Concat(put(s.hello), put(s.answer)), frame[1:]) {
		return shake.Keys{}, api.EAUTH
	}
	return shake.Keys{Life: s.life, Conn: s.conn, Peer: s.peer}, api.OK
}
