package pack

import (
	"bytes"

	"intaglio/api"
)

// Reader reads bytes from left to right.
type Reader struct {
	made bool // new(Reader) must tell ENIL, a reader of no bytes must not
	left []byte
	err  api.Errno
}

// Read begins to read.
func Read(b []byte) *Reader {
	// The bytes are copied: what becomes of b behind this call must not be seen.
	return &Reader{made: true, left: bytes.Clone(b)}
}

// fail ends the reading, unless it has ended.
func (r *Reader) fail(e api.Errno) {
	if r.Err() == api.OK {
		r.err, r.left = e, nil
	}
}

// take is the next n bytes, not copied; none, if there are not so many.
func (r *Reader) take(n int) []byte {
	if n > r.Left() {
		r.fail(api.ESHORT)
	}
	if r.Err() != api.OK {
		return nil
	}
	out := r.left[:n]
	r.left = r.left[n:]
	return out
}

// fromHigh is the number of the next bytes, the highest first.
func fromHigh[N number](r *Reader) N {
	var x N
	for _, c := range r.take(width[N]()) {
		x = x<<8 | N(c)
	}
	return x
}

// U8 is the next byte.
func (r *Reader) U8() int {
	b := r.take(1)
	if len(b) == 0 {
		return 0
	}
	return int(b[0])
}

// U32 is the number of the next four bytes.
func (r *Reader) U32() uint32 { return fromHigh[uint32](r) }

// U64 is the number of the next eight bytes.
func (r *Reader) U64() uint64 { return fromHigh[uint64](r) }

// above tells whether a number without a sign is more than an int, which may be below 0.
func above(x uint64, most int) bool { return most < 0 || x > uint64(most) }

// Num is a number of at most so much.
func (r *Reader) Num(most int) int {
	x := r.U64()
	if above(x, most) {
		r.fail(api.ELONG)
		return 0
	}
	return int(x)
}

// Bytes is a text of at most so many bytes.
func (r *Reader) Bytes(most int) []byte {
	n := r.U32()
	if above(uint64(n), most) {
		r.fail(api.ELONG)
		return nil
	}
	return bytes.Clone(r.take(int(n)))
}

// Rest is all that is left.
func (r *Reader) Rest() []byte { return bytes.Clone(r.take(r.Left())) }

// Left is how many bytes are left.
func (r *Reader) Left() int {
	if r == nil {
		return 0
	}
	return len(r.left)
}

// Err is the first error.
func (r *Reader) Err() api.Errno {
	if r == nil || !r.made {
		return api.ENIL
	}
	return r.err
}

// End is the first error, also that bytes are left.
func (r *Reader) End() api.Errno {
	e := r.Err()
	if e == api.OK && r.Left() > 0 {
		return api.EFORM
	}
	return e
}
