package pipe_test

import (
	"bytes"
	"math"
	"math/rand"
	"slices"
	"testing"

	"intaglio/api"
	"intaglio/box"
	"intaglio/pipe"
	"intaglio/shake"
)

const most = 1 << 40

// someKeys are keys all of whose numbers are unlike.
func someKeys() shake.Keys { return shake.Keys{Life: 12, Conn: 13, Peer: 14} }

// newBox is a box of a secret that all have.
func newBox(ideal bool) *box.Box { return box.New([]byte("secret"), ideal) }

// both does something with boxes of each kind.
func both(t *testing.T, do func(t *testing.T, ideal bool)) {
	t.Helper()
	t.Run("real", func(t *testing.T) { do(t, false) })
	t.Run("ideal", func(t *testing.T) { do(t, true) })
}

// noBoxes are boxes that New did not make; noPipes, pipes.
func noBoxes() map[string]*box.Box {
	return map[string]*box.Box{"nil": nil, "new": new(box.Box), "zero": {}}
}

func noPipes() map[string]*pipe.Pipe {
	return map[string]*pipe.Pipe{"nil": nil, "new": new(pipe.Pipe), "zero": {}}
}

// of is bounds of so many frames of an epoch, and such a last epoch; the other bounds bind nothing.
func of(seq, epoch int) api.Bounds {
	return api.Bounds{Nonce: -1, Seq: seq, Pin: -1, Gen: -1, Life: -1, Epoch: epoch, Conn: -1}
}

// wide are bounds that no test comes to.
func wide() api.Bounds { return of(1000, 1000) }

// filled is n bytes.
func filled(n int) []byte { return bytes.Repeat([]byte{'x'}, n) }

// idOf is the id of an epoch and a side, of someKeys.
func idOf(epoch, side int) api.KeyID {
	return api.KeyID{Label: 6, Epoch: epoch, Life: 12, Num: 13, Side: side, Peer: 14}
}

// plain is an end by the chapter's words.
type plain struct {
	b       *box.Box
	k       shake.Keys
	side    int
	bounds  api.Bounds
	out, in int
	closed  bool
}

func newPlain(b *box.Box, k shake.Keys, side int, bounds api.Bounds) *plain {
	if !slices.Contains([]int{0, 1}, side) || b.Check(api.KeyID{}, nil, nil) || slices.ContainsFunc([]int{k.Life, k.Conn, k.Peer}, func(n int) bool { return n < 0 || n > most }) {
		return nil
	}
	return &plain{b: b, k: k, side: side, bounds: bounds}
}

// place is the epoch and the number of the n-th frame of a side; false: there is none such.
func (p *plain) place(n int) (epoch, number int, ok bool) {
	seq, last := min(max(p.bounds.Seq, 0), most), min(max(p.bounds.Epoch, 0), most)
	if seq == 0 || n/seq > last {
		return 0, 0, false
	}
	return n / seq, n % seq, true
}

// id is the id of the frames of an epoch and a side.
func (p *plain) id(epoch, side int) api.KeyID {
	return api.KeyID{Label: api.KFrame, Epoch: epoch, Life: p.k.Life, Num: p.k.Conn, Side: side, Peer: p.k.Peer}
}

// next is the next frame of the own side.
func (p *plain) next(content []byte) ([]byte, api.Errno) {
	epoch, number, ok := p.place(p.out)
	if !ok {
		return nil, api.ESPENT
	}
	sealed, e := p.b.Seal(p.id(epoch, p.side), number, nil, content)
	if e != api.OK {
		panic("a frame that is not sealed")
	}
	p.out++
	return append([]byte{4}, sealed...), api.OK
}

func (p *plain) seal(text []byte) ([]byte, api.Errno) {
	switch {
	case p.closed:
		return nil, api.ECLOSED
	case len(text) > 60000:
		return nil, api.ELONG
	}
	return p.next(append([]byte{1}, text...))
}

func (p *plain) close() ([]byte, api.Errno) {
	if p.closed {
		return nil, api.ECLOSED
	}
	p.closed = true
	return p.next([]byte{2})
}

func (p *plain) open(frame []byte) ([]byte, api.Errno) {
	if p.closed {
		return nil, api.ECLOSED
	}
	p.closed = true
	epoch, number, ok := p.place(p.in)
	if !ok {
		return nil, api.ESPENT
	}
	if len(frame) == 0 || frame[0] != 4 {
		return nil, api.EAUTH
	}
	content, e := p.b.Open(p.id(epoch, 1-p.side), number, nil, frame[1:])
	switch {
	case e != api.OK:
		return nil, api.EAUTH
	case bytes.Equal(content, []byte{2}):
		p.in++
		return nil, api.ECLOSED
	case len(content) == 0 || content[0] != 1:
		return nil, api.EAUTH
	}
	p.in++
	p.closed = false
	return content[1:], api.OK
}

// twin is ends by one box, and plain ones by another: whatever befalls them, they must tell the same.
type twin struct {
	*testing.T
	got, want *box.Box
	ends      [2]*end // by side
}

// end is an end, and the plain one.
type end struct {
	w *twin
	p *pipe.Pipe
	m *plain
}

// newTwin is both ends of a pipe.
func newTwin(t *testing.T, ideal bool, bounds api.Bounds) *twin {
	t.Helper()
	w := &twin{T: t, got: newBox(ideal), want: newBox(ideal)}
	for side := range 2 {
		w.ends[side] = w.end(someKeys(), side, bounds)
	}
	return w
}

// end is one more end.
func (w *twin) end(k shake.Keys, side int, bounds api.Bounds) *end {
	w.Helper()
	e := &end{w, pipe.New(w.got, k, side, bounds), newPlain(w.want, k, side, bounds)}
	if (e.p == nil) != (e.m == nil) {
		w.Fatalf("%v, %d: %v, want %v", k, side, e.p, e.m)
	}
	if e.p != nil {
		e.is("new")
	}
	return e
}

// is asks for all that an end and its box tell.
func (x *end) is(what string) {
	x.w.Helper()
	out, in := x.p.Counts()
	if out != x.m.out || in != x.m.in || x.p.Up() == x.m.closed {
		x.w.Fatalf("%s: %d sealed, %d opened, up %v, want %d, %d, %v", what, out, in, x.p.Up(), x.m.out, x.m.in, !x.m.closed)
	}
	g, m := x.w.got, x.w.want
	if g.Sealed() != m.Sealed() || g.Repeats() != m.Repeats() {
		x.w.Fatalf("%s: %d sealed, %d repeats, want %d, %d", what, g.Sealed(), g.Repeats(), m.Sealed(), m.Repeats())
	}
}

// same asks that a call told what the plain one told.
func (x *end) same(what string, got, want []byte, e, wantError api.Errno) ([]byte, api.Errno) {
	x.w.Helper()
	if e != wantError || !bytes.Equal(got, want) {
		x.w.Fatalf("%s: %d, %d bytes, want %d, %d bytes", what, e, len(got), wantError, len(want))
	}
	x.is(what)
	return got, e
}

func (x *end) seal(text []byte) ([]byte, api.Errno) {
	x.w.Helper()
	got, e := x.p.Seal(text)
	want, e2 := x.m.seal(text)
	return x.same("seal", got, want, e, e2)
}

func (x *end) close() ([]byte, api.Errno) {
	x.w.Helper()
	got, e := x.p.Close()
	want, e2 := x.m.close()
	return x.same("close", got, want, e, e2)
}

func (x *end) open(frame []byte) ([]byte, api.Errno) {
	x.w.Helper()
	got, e := x.p.Open(frame)
	want, e2 := x.m.open(frame)
	return x.same("open", got, want, e, e2)
}

// tells asks that a call told this.
func (w *twin) tells(what string, got, want api.Errno) {
	w.Helper()
	if got != want {
		w.Fatalf("%s: %d, want %d", what, got, want)
	}
}

// sealed is a text's frame.
func (x *end) sealed(text string) []byte {
	x.w.Helper()
	frame, e := x.seal([]byte(text))
	x.w.tells("seal", e, api.OK)
	return frame
}

// opens asks for a frame's text.
func (x *end) opens(frame []byte, text string) {
	x.w.Helper()
	got, e := x.open(frame)
	x.w.tells("open", e, api.OK)
	if string(got) != text {
		x.w.Fatalf("%q, want %q", got, text)
	}
}

// refuses asks for an error of a frame, behind which the end is closed.
func (x *end) refuses(what string, frame []byte, want api.Errno) {
	x.w.Helper()
	_, e := x.open(frame)
	x.w.tells(what, e, want)
	x.over(frame)
}

// over asks that an end is closed, and stays so: nothing is sealed or opened any more.
func (x *end) over(frames ...[]byte) {
	x.w.Helper()
	if x.p.Up() {
		x.w.Fatal("still up")
	}
	sealed := x.w.got.Sealed()
	for range 2 {
		for _, n := range []int{0, 1, 60000, 60001} {
			_, e := x.seal(filled(n))
			x.w.tells("seal of a closed one", e, api.ECLOSED)
		}
		for _, f := range append(frames, nil, []byte{4}, make([]byte, 20)) {
			_, e := x.open(f)
			x.w.tells("open of a closed one", e, api.ECLOSED)
		}
		_, e := x.close()
		x.w.tells("close of a closed one", e, api.ECLOSED)
	}
	if x.w.got.Sealed() != sealed {
		x.w.Fatalf("%d sealed, ahead %d", x.w.got.Sealed(), sealed)
	}
}

// forge is a frame as one makes it who has both boxes.
func (w *twin) forge(id api.KeyID, n int, ad, content []byte) []byte {
	w.Helper()
	sealed, e := w.got.Seal(id, n, ad, content)
	w.want.Seal(id, n, ad, content)
	w.tells("forge", e, api.OK)
	return append([]byte{4}, sealed...)
}

// wrongNumbers may not be of keys.
func wrongNumbers() []int {
	return []int{-1, -2, -most, math.MinInt, most + 1, most + 2, 2 * most, math.MaxInt}
}

// someText is a text of any bytes, also of none.
func someText(rnd *rand.Rand) []byte {
	text := make([]byte, rnd.Intn(3)*rnd.Intn(40))
	rnd.Read(text)
	return text
}
