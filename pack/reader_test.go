package pack_test

import (
	"bytes"
	"math"
	"testing"

	"intaglio/api"
	"intaglio/pack"
)

// dead asks that a reader reads nothing any more, and tells an error.
func dead(t *testing.T, what string, r *pack.Reader, e api.Errno) {
	t.Helper()
	for range 2 {
		if n := r.Left(); n != 0 {
			t.Errorf("%s: %d left", what, n)
		}
		if a, b, c := r.U8(), r.U32(), r.U64(); a != 0 || b != 0 || c != 0 {
			t.Errorf("%s: %d, %d, %d", what, a, b, c)
		}
		for _, most := range []int{math.MinInt, -1, 0, 5, math.MaxInt} {
			if n := r.Num(most); n != 0 {
				t.Errorf("%s: Num %d", what, n)
			}
			if s := r.Bytes(most); len(s) != 0 {
				t.Errorf("%s: Bytes % x", what, s)
			}
		}
		if s := r.Rest(); len(s) != 0 {
			t.Errorf("%s: Rest % x", what, s)
		}
		if r.Err() != e || r.End() != e {
			t.Errorf("%s: %d, %d, want %d", what, r.Err(), r.End(), e)
		}
	}
}

// P1.2: a reader goes from left to right, the highest byte first.
func TestReader(t *testing.T) {
	b := []byte{0x81, 0xf2, 3, 4, 5, 0xf6, 7, 8, 9, 10, 11, 12, 13, 0, 0, 0, 0, 0, 0, 1, 2, 0, 0, 0, 3, 'a', 'b', 'c', 'd', 'e'}
	r := pack.Read(b)
	left := func(n int) {
		t.Helper()
		e := api.OK
		if n > 0 {
			e = api.EFORM
		}
		if r.Left() != n || r.Err() != api.OK || r.End() != e || r.Err() != api.OK || r.Left() != n {
			t.Errorf("left %d, want %d; %d, %d", r.Left(), n, r.Err(), r.End())
		}
	}
	left(30)
	if x := r.U8(); x != 0x81 {
		t.Errorf("U8 %x", x)
	}
	left(29)
	if x := r.U32(); x != 0xf2030405 {
		t.Errorf("U32 %x", x)
	}
	left(25)
	if x := r.U64(); x != 0xf60708090a0b0c0d {
		t.Errorf("U64 %x", x)
	}
	left(17)
	if x := r.Num(258); x != 258 {
		t.Errorf("Num %d", x)
	}
	left(9)
	want(t, "Bytes", r.Bytes(3), []byte("abc"))
	left(2)
	want(t, "Rest", r.Rest(), []byte("de"))
	left(0)
	want(t, "Rest of nothing", r.Rest(), nil)
	left(0)
}

// P1.2: of no bytes there is nothing to read, but a reader there is.
func TestReaderOfNothing(t *testing.T) {
	for _, b := range [][]byte{nil, {}} {
		r := pack.Read(b)
		if r.Left() != 0 || r.Err() != api.OK || r.End() != api.OK || len(r.Rest()) != 0 || r.Err() != api.OK {
			t.Error(r.Left(), r.Err(), r.End())
		}
		r.U8()
		dead(t, "U8 of nothing", r, api.ESHORT)
	}
}

// P1.2: bytes that end too early tell ESHORT, and none of them is read any more.
func TestShort(t *testing.T) {
	for name, c := range map[string]struct {
		need int
		read func(r *pack.Reader) bool
	}{
		"U8":    {1, func(r *pack.Reader) bool { return r.U8() == 0 }},
		"U32":   {4, func(r *pack.Reader) bool { return r.U32() == 0 }},
		"U64":   {8, func(r *pack.Reader) bool { return r.U64() == 0 }},
		"Num":   {8, func(r *pack.Reader) bool { return r.Num(math.MaxInt) == 0 }},
		"Num 0": {8, func(r *pack.Reader) bool { return r.Num(0) == 0 }},
		"Bytes": {4, func(r *pack.Reader) bool { return len(r.Bytes(math.MaxInt)) == 0 }},
	} {
		for n := range c.need {
			r := pack.Read(bytes.Repeat([]byte{1}, n))
			if !c.read(r) {
				t.Errorf("%s of %d bytes: not 0", name, n)
			}
			dead(t, name, r, api.ESHORT)
		}
		r := pack.Read(make([]byte, c.need))
		if !c.read(r) || r.End() != api.OK {
			t.Errorf("%s of as many bytes: %d", name, r.End())
		}
	}
}

// P1.2: Num tells ELONG above its bound, and from 2^63 on.
func TestNumBound(t *testing.T) {
	for _, c := range []struct {
		x    uint64
		most int
		e    api.Errno
	}{
		{0, 0, api.OK}, {5, 5, api.OK}, {5, 6, api.OK}, {math.MaxInt64, math.MaxInt, api.OK}, {api.MaxNum, api.MaxNum, api.OK},
		{1, 0, api.ELONG}, {6, 5, api.ELONG}, {api.MaxNum + 1, api.MaxNum, api.ELONG}, {math.MaxInt64, math.MaxInt - 1, api.ELONG},
		{1 << 63, math.MaxInt, api.ELONG}, {1<<63 + 1, 5, api.ELONG}, {math.MaxUint64, math.MaxInt, api.ELONG},
		{0, -1, api.ELONG}, {1, math.MinInt, api.ELONG}, {math.MaxUint64, -1, api.ELONG}, {1 << 63, math.MinInt, api.ELONG},
	} {
		r := pack.Read(append(pack.Put64(nil, c.x), 7))
		n := r.Num(c.most)
		if c.e != api.OK {
			if n != 0 {
				t.Errorf("%d of at most %d: %d", c.x, c.most, n)
			}
			dead(t, "Num", r, c.e)
		} else if uint64(n) != c.x || r.Err() != api.OK || r.Left() != 1 {
			t.Errorf("%d of at most %d: %d, %d", c.x, c.most, n, r.Err())
		}
	}
}

// P1.2: Bytes tells ELONG of a length above its bound, ahead of ESHORT of bytes that are not there.
func TestBytesBound(t *testing.T) {
	for _, c := range []struct {
		x    uint32
		most int
		e    api.Errno
	}{
		{0, 0, api.OK}, {3, 3, api.OK}, {2, 3, api.OK}, {3, math.MaxInt, api.OK},
		{3, 2, api.ELONG}, {3, 0, api.ELONG}, {0, -1, api.ELONG}, {3, math.MinInt, api.ELONG},
		{4, 3, api.ELONG}, {math.MaxUint32, math.MaxUint32 - 1, api.ELONG}, {1 << 31, 5, api.ELONG},
		{4, 4, api.ESHORT}, {1 << 31, math.MaxInt, api.ESHORT}, {math.MaxUint32, math.MaxInt, api.ESHORT},
	} {
		r := pack.Read(append(pack.Put32(nil, c.x), "abc"...))
		s := r.Bytes(c.most)
		if c.e != api.OK {
			want(t, "Bytes", s, nil)
			dead(t, "Bytes", r, c.e)
		} else if string(s) != "abc"[:c.x] || r.Err() != api.OK || r.Left() != 3-int(c.x) {
			t.Errorf("%d of at most %d: % x, %d", c.x, c.most, s, r.Err())
		}
	}
}

// P1.2: the first error stays, whatever is asked behind it.
func TestFirstError(t *testing.T) {
	r := pack.Read([]byte{0, 0, 0, 9, 1, 2, 3})
	r.Bytes(8)
	dead(t, "ELONG, then too few", r, api.ELONG)
	r = pack.Read([]byte{1, 2, 3})
	r.U32()
	dead(t, "ESHORT, then too long", r, api.ESHORT)
}

// P1.2, and rule 2: End tells that bytes are left, and changes nothing.
func TestEndChangesNothing(t *testing.T) {
	r := pack.Read([]byte{1, 2})
	for range 3 {
		if r.End() != api.EFORM || r.Err() != api.OK || r.Left() != 2 {
			t.Fatal(r.End(), r.Err(), r.Left())
		}
	}
	if r.U8() != 1 || r.End() != api.EFORM || r.U8() != 2 || r.End() != api.OK {
		t.Error(r.End())
	}
}

// P1.2, and rule 6: a reader that Read did not make tells ENIL.
func TestReaderThatReadDidNotMake(t *testing.T) {
	dead(t, "nil", nil, api.ENIL)
	dead(t, "new", new(pack.Reader), api.ENIL)
	dead(t, "zero", &pack.Reader{}, api.ENIL)
}

// Rule 4: a reader keeps nothing that was handed in, and hands out nothing that it has.
func TestReaderMemory(t *testing.T) {
	b := []byte{0, 0, 0, 2, 'a', 'b', 'c', 'd'}
	r := pack.Read(b)
	want(t, "what was handed in", b, []byte{0, 0, 0, 2, 'a', 'b', 'c', 'd'})
	clear(b)
	s := r.Bytes(2)
	want(t, "Bytes", s, []byte("ab"))
	clear(s[:cap(s)])
	twin := *r
	rest := r.Rest()
	want(t, "Rest", rest, []byte("cd"))
	clear(rest[:cap(rest)])
	want(t, "Rest of a twin", twin.Rest(), []byte("cd"))
}
