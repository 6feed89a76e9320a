package pack_test

import (
	"bytes"
	"encoding/binary"
	"math"
	"math/rand"
	"testing"

	"intaglio/pack"
)

func num32() []uint32 {
	return []uint32{0, 1, 0x7f, 0x80, 0xff, 0x100, 0x01020304, 0x7fffffff, 0x80000000, 0xfffffffe, 0xffffffff}
}

func num64() []uint64 {
	return []uint64{0, 1, 0xff, 0x100, 0xffffffff, 1 << 32, 0x0102030405060708, math.MaxInt64, 1 << 63, math.MaxUint64 - 1, math.MaxUint64}
}

func heads() [][]byte { return [][]byte{nil, {}, {7}, []byte("some bytes ahead")} }

func want(t *testing.T, what string, got, want []byte) {
	t.Helper()
	if !bytes.Equal(got, want) {
		t.Errorf("%s: % x, want % x", what, got, want)
	}
}

// P1.1: numbers are laid behind what was, in both orders.
func TestPutNumbers(t *testing.T) {
	for _, h := range heads() {
		for _, x := range num32() {
			want(t, "Put32", pack.Put32(h, x), binary.BigEndian.AppendUint32(bytes.Clone(h), x))
			want(t, "PutLe32", pack.PutLe32(h, x), binary.LittleEndian.AppendUint32(bytes.Clone(h), x))
		}
		for _, x := range num64() {
			want(t, "Put64", pack.Put64(h, x), binary.BigEndian.AppendUint64(bytes.Clone(h), x))
			want(t, "PutLe64", pack.PutLe64(h, x), binary.LittleEndian.AppendUint64(bytes.Clone(h), x))
		}
	}
}

// P1.1: PutNum lays an int in eight bytes, one below 0 as 0.
func TestPutNum(t *testing.T) {
	want(t, "258", pack.PutNum([]byte{9}, 258), []byte{9, 0, 0, 0, 0, 0, 0, 1, 2})
	want(t, "greatest", pack.PutNum(nil, math.MaxInt), []byte{0x7f, 0xff, 0xff, 0xff, 0xff, 0xff, 0xff, 0xff})
	for _, n := range []int{0, -1, -258, math.MinInt} {
		want(t, "0 and below", pack.PutNum([]byte{9}, n), []byte{9, 0, 0, 0, 0, 0, 0, 0, 0})
	}
}

// P1.1: Put lays a text's length, and the text.
func TestPut(t *testing.T) {
	want(t, "ab behind nothing", pack.Put(nil, []byte("ab")), []byte{0, 0, 0, 2, 'a', 'b'})
	want(t, "ab behind c", pack.Put([]byte("c"), []byte("ab")), []byte{'c', 0, 0, 0, 2, 'a', 'b'})
	want(t, "no text", pack.Put([]byte("c"), nil), []byte{'c', 0, 0, 0, 0})
	long := bytes.Repeat([]byte{5}, 0x10203)
	want(t, "a long text", pack.Put(nil, long), append([]byte{0, 1, 2, 3}, long...))
}

// P1.1: Le32 and Le64 take a byte that is not there for 0, at every place.
func TestLe(t *testing.T) {
	b := []byte{1, 2, 3, 4, 5, 6, 7, 8, 9}
	at := func(p int) uint64 {
		if p < 0 || p >= len(b) {
			return 0
		}
		return uint64(b[p])
	}
	for p := -12; p < 12; p++ {
		var x uint64
		for i := 7; i >= 0; i-- {
			x = x<<8 | at(p+i)
		}
		if y := pack.Le64(b, p); y != x {
			t.Errorf("Le64 at %d: %x, want %x", p, y, x)
		}
		if y := pack.Le32(b, p); y != uint32(x) {
			t.Errorf("Le32 at %d: %x, want %x", p, y, uint32(x))
		}
	}
	for _, p := range []int{math.MinInt, math.MinInt + 7, math.MinInt32, math.MaxInt32, math.MaxInt - 7, math.MaxInt - 3, math.MaxInt} {
		if x, y := pack.Le32(b, p), pack.Le64(b, p); x != 0 || y != 0 {
			t.Errorf("at %d: %x, %x", p, x, y)
		}
	}
	if x, y := pack.Le32(nil, 0), pack.Le64(nil, 0); x != 0 || y != 0 {
		t.Errorf("of nothing: %x, %x", x, y)
	}
}

// P1.1: Join takes parts in any count.
func TestJoin(t *testing.T) {
	want(t, "no part", pack.Join(), nil)
	want(t, "empty parts", pack.Join(nil, []byte{}, nil), nil)
	want(t, "one", pack.Join([]byte("a")), []byte("a"))
	want(t, "some", pack.Join([]byte("ab"), nil, []byte("c"), []byte("def")), []byte("abcdef"))
}

// P1.1, and rule 4: what is handed in stays as it is, its spare room too, and shares nothing with the answer.
func TestNewMemory(t *testing.T) {
	for name, call := range map[string]func(b []byte) []byte{
		"Put32":    func(b []byte) []byte { return pack.Put32(b, 1) },
		"Put64":    func(b []byte) []byte { return pack.Put64(b, 1) },
		"PutNum":   func(b []byte) []byte { return pack.PutNum(b, 1) },
		"Put":      func(b []byte) []byte { return pack.Put(b, []byte("text")) },
		"Put text": func(b []byte) []byte { return pack.Put(nil, b) },
		"Put both": func(b []byte) []byte { return pack.Put(b, b) },
		"PutLe32":  func(b []byte) []byte { return pack.PutLe32(b, 1) },
		"PutLe64":  func(b []byte) []byte { return pack.PutLe64(b, 1) },
		"Join one": func(b []byte) []byte { return pack.Join(b) },
		"Join":     func(b []byte) []byte { return pack.Join(b, []byte("text")) },
	} {
		room := bytes.Repeat([]byte{0xee}, 64)
		got := call(room[:5])
		keep := bytes.Clone(got)
		want(t, name+": its spare room", room, bytes.Repeat([]byte{0xee}, 64))
		clear(room)
		want(t, name+": behind a change of what was handed in", got, keep)
		clear(got[:cap(got)])
		room = bytes.Repeat([]byte{0xee}, 64)
		clear(call(room[:5]))
		want(t, name+": behind a change of the answer", room, bytes.Repeat([]byte{0xee}, 64))
	}
}

// P1.3: what was written is read, and nothing is left.
func TestBack(t *testing.T) {
	rnd := rand.New(rand.NewSource(1))
	for range 300 {
		x, y, n := rnd.Uint32(), rnd.Uint64(), rnd.Intn(math.MaxInt)>>rnd.Intn(63)
		s, rest := make([]byte, rnd.Intn(40)), make([]byte, rnd.Intn(3))
		rnd.Read(s)
		rnd.Read(rest)
		b := pack.Join(pack.Put32([]byte{byte(x)}, x), pack.Put64(nil, y), pack.PutNum(nil, n), pack.Put(nil, s), rest)
		r := pack.Read(b)
		if c, x2, y2, n2 := r.U8(), r.U32(), r.U64(), r.Num(n); c != int(byte(x)) || x2 != x || y2 != y || n2 != n {
			t.Fatalf("%d, %d, %d, %d, want %d, %d, %d, %d", c, x2, y2, n2, byte(x), x, y, n)
		}
		want(t, "text", r.Bytes(len(s)), s)
		want(t, "rest", r.Rest(), rest)
		if r.Left() != 0 || r.End() != 0 {
			t.Fatal(r.Left(), r.End())
		}
		if pack.Le32(pack.PutLe32(s, x), len(s)) != x || pack.Le64(pack.PutLe64(s, y), len(s)) != y {
			t.Fatal(x, y)
		}
	}
}

// P1.4: bytes of numbers, the highest first, stand as the numbers do.
func TestOrder(t *testing.T) {
	rnd := rand.New(rand.NewSource(2))
	some32, some64 := num32(), num64()
	for range 40 {
		some32 = append(some32, rnd.Uint32()>>rnd.Intn(32))
		some64 = append(some64, rnd.Uint64()>>rnd.Intn(64))
	}
	order := func(less, same bool, a, b []byte) {
		t.Helper()
		if c := bytes.Compare(a, b); (c < 0) != less || (c == 0) != same {
			t.Errorf("% x, % x: %d", a, b, c)
		}
	}
	for _, x := range some32 {
		for _, y := range some32 {
			order(x < y, x == y, pack.Put32(nil, x), pack.Put32(nil, y))
		}
	}
	for _, x := range some64 {
		for _, y := range some64 {
			order(x < y, x == y, pack.Put64(nil, x), pack.Put64(nil, y))
			n, m := int(x>>1), int(y>>1)
			order(n < m, n == m, pack.PutNum(nil, n), pack.PutNum(nil, m))
		}
	}
}
