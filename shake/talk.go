package shake

import (
	"bytes"

	"intaglio/api"
	"intaglio/box"
	"intaglio/pack"
)

// The sides.
const (
	ofClient = iota
	ofServer
)

// How far a talk is.
const (
	unmade = iota // neither Dial nor Accept made it
	begun
	asked
)

// talk is what each side has of an agreement.
type talk struct {
	far   int
	box   *box.Box
	keys  Keys // what is known of them by now
	hello []byte
}

// refuse is why nothing can be begun by a box and keys; OK: something can.
func refuse(b *box.Box, k Keys) api.Errno {
	// An id that may not be is never marked: to ask so changes nothing.
	if _, e := b.Mark(api.KeyID{}, nil); e == api.ENIL {
		return e
	}
	if !k.mayBe() {
		return api.EARG
	}
	return api.OK
}

// begin is a talk that begins with a hello.
func begin(b *box.Box, k Keys, hello []byte) talk {
	return talk{far: begun, box: b, keys: k, hello: bytes.Clone(hello)}
}

// once is why a talk can't be asked; OK: it can, this once.
func (t *talk) once() api.Errno {
	switch t.far {
	case unmade:
		return api.ENIL
	case asked:
		return api.ESTATE
	}
	t.far = asked
	return api.OK
}

// marked is the id and the text by which a side marks that it took the hello, and a frame behind it.
func (t *talk) marked(label, side int, frame []byte) (api.KeyID, []byte) {
	id := t.keys.ID(0, side)
	id.Label = label
	return id, pack.Put(pack.Put(nil, t.hello), frame)
}

// mark is a side's mark.
func (t *talk) mark(label, side int, frame []byte) []byte {
	id, text := t.marked(label, side, frame)
	// The box is one that New made, and the keys may be: there is no error.
	mark, _ := t.box.Mark(id, text)
	return mark
}

// right tells whether a mark is that side's.
func (t *talk) right(label, side int, frame, mark []byte) bool {
	id, text := t.marked(label, side, frame)
	return t.box.Check(id, text, mark)
}
