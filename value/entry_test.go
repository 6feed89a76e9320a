package value_test

import (
	"bytes"
	"math"
	"math/rand"
	"slices"
	"testing"

	"intaglio/api"
	"intaglio/value"
)

// encode is the bytes of an entry that may be.
func encode(t *testing.T, e api.Entry) []byte {
	t.Helper()
	b, x := value.Encode(e)
	if x != api.OK {
		t.Fatalf("%.200v: %d", e, x)
	}
	return b
}

// entries are entries of these values, with keys and times at their edges too.
func entries(values []api.Val) []api.Entry {
	keys, times := []string{"k", "\x00", long(64), "key"}, []int{0, 9, most, 1 << 32, most - 1}
	var out []api.Entry
	for i, v := range values {
		out = append(out, api.Entry{Key: keys[i%len(keys)], Val: v, At: times[i%len(times)]})
	}
	return out
}

// P15.2: the bytes of entries, written out.
func TestEncodeBytes(t *testing.T) {
	for _, c := range []struct {
		e    api.Entry
		want string
	}{
		{api.Entry{Key: "k", Val: text("")}, "\x00\x00\x00\x01k" + "\x00\x00\x00\x00\x00\x00\x00\x00" + "\x01" + "\x00\x00\x00\x00"},
		{api.Entry{Key: "key", Val: text("ab"), At: 258}, "\x00\x00\x00\x03key" + "\x00\x00\x00\x00\x00\x00\x01\x02" + "\x01" + "\x00\x00\x00\x02ab"},
		{api.Entry{Key: "k", Val: hash("a", "bc", "d", ""), At: most}, "\x00\x00\x00\x01k" + "\x00\x00\x01\x00\x00\x00\x00\x00" + "\x02" + "\x00\x00\x00\x00\x00\x00\x00\x02" +
			"\x00\x00\x00\x01a" + "\x00\x00\x00\x02bc" + "\x00\x00\x00\x01d" + "\x00\x00\x00\x00"},
		{api.Entry{Key: "k", Val: list("b", "a", "b")}, "\x00\x00\x00\x01k" + "\x00\x00\x00\x00\x00\x00\x00\x00" + "\x03" + "\x00\x00\x00\x00\x00\x00\x00\x03" +
			"\x00\x00\x00\x01b" + "\x00\x00\x00\x01a" + "\x00\x00\x00\x01b"},
		{api.Entry{Key: "\xff", Val: set("", "a")}, "\x00\x00\x00\x01\xff" + "\x00\x00\x00\x00\x00\x00\x00\x00" + "\x04" + "\x00\x00\x00\x00\x00\x00\x00\x02" +
			"\x00\x00\x00\x00" + "\x00\x00\x00\x01a"},
		{api.Entry{Key: "k", Val: api.Val{Kind: api.VZset, Scores: []api.Score{{Member: "b", Score: -2}, {Member: "a", Score: 258}}}}, "\x00\x00\x00\x01k" +
			"\x00\x00\x00\x00\x00\x00\x00\x00" + "\x05" + "\x00\x00\x00\x00\x00\x00\x00\x02" +
			"\x00\x00\x00\x01b" + "\xff\xff\xff\xff\xff\xff\xff\xfe" + "\x00\x00\x00\x01a" + "\x00\x00\x00\x00\x00\x00\x01\x02"},
	} {
		if got := encode(t, c.e); string(got) != c.want {
			t.Errorf("%v: %x, want %x", c.e, got, c.want)
		}
	}
}

// P15.2, P15.4: an entry has the bytes that the chapter says, and these are decoded to it.
func TestBack(t *testing.T) {
	for _, e := range slices.Concat(entries(small()), entries(great())) {
		b := encode(t, e)
		if want := plainEncode(e); !bytes.Equal(b, want) {
			t.Errorf("%.200v: %.200x, want %.200x", e, b, want)
		}
		got, x := value.Decode(b)
		if x != api.OK || got.Key != e.Key || got.At != e.At || !alike(got.Val, e.Val) {
			t.Errorf("%.200v: %d, %.200v", e, x, got)
		}
		decodes(t, "back", b)
	}
}

// P15.2: what may be no entry has no bytes, but the error that Entry tells.
func TestEncodeWrong(t *testing.T) {
	wrongs := entries(append(wrong(), api.Val{}, api.Val{Kind: 6}, api.Val{Kind: 257, Text: "a"}, list(), sorted("a", "a"), api.Val{Kind: 1, Text: "a", List: []string{"a"}}))
	for _, key := range []string{"", long(65)} {
		wrongs = append(wrongs, api.Entry{Key: key, Val: text("a")}, api.Entry{Key: key, Val: text(long(513))})
	}
	for _, at := range []int{-1, most + 1, math.MinInt, math.MaxInt} {
		wrongs = append(wrongs, api.Entry{Key: "k", Val: text("a"), At: at}, api.Entry{Key: "k", Val: set("b", "a"), At: at})
	}
	for _, e := range wrongs {
		want := plainEntry(e)
		if b, x := value.Encode(e); want == api.OK || x != want || len(b) > 0 {
			t.Errorf("%.200v: %d, %d bytes, want %d", e, x, len(b), want)
		}
	}
}

// P15.2: the bytes that a thing that is no entry would have are decoded to none.
func TestDecodeWrong(t *testing.T) {
	wrongs := entries(append(wrong(), hash("a", "", "a", ""), set("a", "a"), sorted("a", "a"), hash(long(513), ""), hash("", long(513)), set(long(513)), scored(long(513), 1),
		hash(), list(), set(), sorted(), set(numbered(201)...), hash(twice(numbered(201))...), sorted(numbered(201)...), set("a", "c", "b"),
		api.Val{Kind: api.VZset, Scores: []api.Score{{Member: "b"}, {Member: "a"}}}, api.Val{Kind: api.VZset, Scores: []api.Score{{Member: "a", Score: 1}, {Member: "b", Score: -1}}}))
	for _, v := range append(small(), great()...) {
		wrongs = append(wrongs, api.Entry{Val: v}, api.Entry{Key: long(65), Val: v}, api.Entry{Key: "k", Val: v, At: -1}, api.Entry{Key: "k", Val: v, At: most + 1},
			api.Entry{Key: "k", Val: v, At: math.MinInt}, api.Entry{Key: "k", Val: v, At: math.MaxInt})
		for _, kind := range []int{0, 6, 7, 128, 255} {
			w := copied(v)
			w.Kind = kind
			wrongs = append(wrongs, api.Entry{Key: "k", Val: w})
		}
	}
	for _, e := range wrongs {
		b := plainEncode(e)
		if got, x := value.Decode(b); x != api.EFORM || !zero(got) {
			t.Errorf("%.200v: %d, %.200v", e, x, got)
		}
	}
}

// P15.2, P15.4: cut anywhere, or with more behind, bytes are no entry's, or another one's by the chapter's words.
func TestDecodeCut(t *testing.T) {
	for _, e := range entries(small()) {
		b := encode(t, e)
		for n := range b {
			if decodes(t, "cut", b[:n]) {
				t.Errorf("%v: %d of %d bytes are an entry", e, n, len(b))
			}
			decodes(t, "cut ahead", b[n+1:])
			decodes(t, "cut between", slices.Delete(bytes.Clone(b), n, n+1))
		}
		for _, more := range []string{"\x00", "\x01", "\xff", "\x00\x00\x00\x00", "\x00\x00\x00\x01a", string(b)} {
			if decodes(t, "more behind", append(bytes.Clone(b), more...)) {
				t.Errorf("%v: with %x behind it is an entry", e, more)
			}
			for n := range b {
				decodes(t, "more between", slices.Insert(bytes.Clone(b), n, []byte(more)...))
			}
		}
	}
}

// P15.2, P15.4: with any one byte turned, bytes are no entry's, or another one's by the chapter's words.
func TestDecodeTurned(t *testing.T) {
	told := map[bool]int{}
	for i, e := range entries(small()) {
		b := encode(t, e)
		for n := range b {
			for _, by := range []byte{1, 2, 3, 4, 5, 6, 7, 8, 0x20, 0x40, 0x80, 0xff, byte(17*i + 31*n)} {
				turned := bytes.Clone(b)
				turned[n] ^= by
				told[decodes(t, "turned", turned)]++
			}
		}
	}
	if told[true] < 100 || told[false] < 1000 {
		t.Errorf("entries: %d, others: %d", told[true], told[false])
	}
}

// P15.2: great entries too, turned or cut at some places.
func TestDecodeGreat(t *testing.T) {
	rnd := rand.New(rand.NewSource(2))
	for _, e := range entries(great()) {
		b := encode(t, e)
		for range 40 {
			n := rnd.Intn(len(b))
			turned := bytes.Clone(b)
			turned[n] ^= byte(1 + rnd.Intn(255))
			decodes(t, "turned", turned)
			decodes(t, "cut", b[:n])
			decodes(t, "cut between", slices.Delete(turned, n, n+1))
		}
		decodes(t, "longer by one", append(bytes.Clone(b), 0))
		decodes(t, "shorter by one", b[:len(b)-1])
	}
}

// P15.2: numbers that pack would write otherwise, or that are beyond what may be, are refused, and end.
func TestDecodeNumbers(t *testing.T) {
	numbers := []string{"\x80\x00\x00\x00\x00\x00\x00\x00", "\xff\xff\xff\xff\xff\xff\xff\xff", "\x7f\xff\xff\xff\xff\xff\xff\xff", "\x80\x00\x00\x00\x00\x00\x00\x01",
		"\x00\x00\x01\x00\x00\x00\x00\x01", "\x00\x00\x02\x00\x00\x00\x00\x00", "\xff\xff\xff\xff\x00\x00\x00\x01"}
	for _, number := range numbers {
		for _, b := range []string{
			"\x00\x00\x00\x01k" + number + "\x01" + "\x00\x00\x00\x01a",
			"\x00\x00\x00\x01k" + number + "\x03" + "\x00\x00\x00\x00\x00\x00\x00\x01" + "\x00\x00\x00\x01a",
			"\x00\x00\x00\x01k" + "\x00\x00\x00\x00\x00\x00\x00\x00" + "\x03" + number + "\x00\x00\x00\x01a",
			"\x00\x00\x00\x01k" + "\x00\x00\x00\x00\x00\x00\x00\x00" + "\x02" + number + "\x00\x00\x00\x01a\x00\x00\x00\x00",
			"\x00\x00\x00\x01k" + "\x00\x00\x00\x00\x00\x00\x00\x00" + "\x05" + number + "\x00\x00\x00\x01a" + "\x00\x00\x00\x00\x00\x00\x00\x01",
			"\x00\x00\x00\x01k" + "\x00\x00\x00\x00\x00\x00\x00\x00" + "\x03" + number,
		} {
			if decodes(t, "number", []byte(b)) {
				t.Errorf("%x is an entry", b)
			}
		}
		decodes(t, "score", []byte("\x00\x00\x00\x01k"+"\x00\x00\x00\x00\x00\x00\x00\x00"+"\x05"+"\x00\x00\x00\x00\x00\x00\x00\x01"+"\x00\x00\x00\x01a"+number))
	}
	for _, length := range []string{"\xff\xff\xff\xff", "\x80\x00\x00\x01", "\x00\x00\x00\x02", "\x00\x00\x02\x01", "\x00\x00\x00\x00"} {
		for _, b := range []string{
			length + "k" + "\x00\x00\x00\x00\x00\x00\x00\x00" + "\x01" + "\x00\x00\x00\x01a",
			"\x00\x00\x00\x01k" + "\x00\x00\x00\x00\x00\x00\x00\x00" + "\x01" + length + "a",
			"\x00\x00\x00\x01k" + "\x00\x00\x00\x00\x00\x00\x00\x00" + "\x04" + "\x00\x00\x00\x00\x00\x00\x00\x01" + length + "a",
		} {
			if decodes(t, "length", []byte(b)) {
				t.Errorf("%x is an entry", b)
			}
		}
	}
}

// P15.2: whatever bytes come, they are decoded as by the chapter's words.
func TestDecodeAny(t *testing.T) {
	rnd := rand.New(rand.NewSource(3))
	for _, b := range [][]byte{nil, {}, {0}, make([]byte, 4), make([]byte, 13), make([]byte, 21), make([]byte, 1000), bytes.Repeat([]byte{0xff}, 100)} {
		if decodes(t, "none", b) {
			t.Errorf("%x is an entry", b)
		}
	}
	told := 0
	for range 40000 {
		e := api.Entry{Key: long(rnd.Intn(3)), Val: anyVal(rnd), At: rnd.Intn(3)}
		b := plainEncode(e)
		for range rnd.Intn(3) {
			b[rnd.Intn(len(b))] = byte(rnd.Intn(6))
		}
		if decodes(t, "any", b) {
			told++
		}
	}
	if told < 1000 {
		t.Errorf("%d entries", told)
	}
}

// Rule 4: what is handed in is not changed, its spare room neither; what is answered is new memory.
func TestMemory(t *testing.T) {
	for _, e := range slices.Concat(entries(small()), entries(great())) {
		keep := copied(e.Val)
		e.Val.Pairs = append(slices.Clip(e.Val.Pairs), api.Pair{Field: "spare"})[:len(e.Val.Pairs)]
		e.Val.List = append(slices.Clip(e.Val.List), "spare")[:len(e.Val.List)]
		e.Val.Scores = append(slices.Clip(e.Val.Scores), api.Score{Member: "spare"})[:len(e.Val.Scores)]
		one, two := encode(t, e), encode(t, e)
		clear(two[:cap(two)])
		room := append(bytes.Clone(one), "spare"...)
		got, _ := value.Decode(room[:len(one)])
		other, _ := value.Decode(room[:len(one)])
		if !bytes.Equal(room, append(bytes.Clone(one), "spare"...)) {
			t.Fatalf("Decode changed what was handed in: %.200x", room)
		}
		clear(room)
		clear(other.Val.Pairs)
		clear(other.Val.List)
		clear(other.Val.Scores)
		value.Check(e.Val)
		value.Size(e.Val)
		value.Of(e.Val)
		if !alike(got.Val, keep) || !alike(e.Val, keep) || !bytes.Equal(one, plainEncode(e)) {
			t.Errorf("%.200v is %.200v", keep, got)
		}
		pairs, list, scores := e.Val.Pairs[:len(e.Val.Pairs)+1], e.Val.List[:len(e.Val.List)+1], e.Val.Scores[:len(e.Val.Scores)+1]
		if pairs[len(pairs)-1].Field != "spare" || list[len(list)-1] != "spare" || scores[len(scores)-1].Member != "spare" {
			t.Errorf("%.200v: the spare room was changed", e)
		}
	}
}
