package value_test

import (
	"bytes"
	"encoding/binary"
	"math"
	"slices"
	"strconv"
	"strings"
	"testing"

	"intaglio/api"
	"intaglio/value"
)

// most is how much a key's time may be at most.
const most = 1 << 40

// long is a text of so many bytes.
func long(n int) string { return strings.Repeat("x", n) }

// odd are texts that may be taken for one another, or for none, rising.
func odd() []string {
	return []string{"", "\x00", "\x00\x00", "-1", "0", "A", "a", "a\x00", "aa", "ab", "b", "\x7f", "\x80", "é", "\xff", "\xff\xff"}
}

// numbered is so many texts, rising.
func numbered(n int) []string {
	var out []string
	for i := range n {
		out = append(out, "t"+strconv.Itoa(1000+i))
	}
	return out
}

// edges are scores, rising.
func edges() []int { return []int{math.MinInt, -1 << 32, -1, 0, 1, 255, 256, 1 << 32, math.MaxInt} }

func text(s string) api.Val { return api.Val{Kind: api.VString, Text: s} }

func list(l ...string) api.Val { return api.Val{Kind: api.VList, List: l} }

func set(l ...string) api.Val { return api.Val{Kind: api.VSet, List: l} }

// hash is a hash of fields and texts, one behind the other.
func hash(l ...string) api.Val {
	v := api.Val{Kind: api.VHash}
	for i := 0; i+1 < len(l); i += 2 {
		v.Pairs = append(v.Pairs, api.Pair{Field: l[i], Text: l[i+1]})
	}
	return v
}

// sorted is a sorted set of members whose scores are their places.
func sorted(l ...string) api.Val {
	v := api.Val{Kind: api.VZset}
	for i, m := range l {
		v.Scores = append(v.Scores, api.Score{Member: m, Score: i})
	}
	return v
}

// scored is a sorted set of one member.
func scored(m string, score int) api.Val {
	return api.Val{Kind: api.VZset, Scores: []api.Score{{Member: m, Score: score}}}
}

// twice is a list in which each text stands twice.
func twice(l []string) []string {
	var out []string
	for _, s := range l {
		out = append(out, s, s)
	}
	return out
}

// small are values of few bytes that may be, of all kinds.
func small() []api.Val {
	out := []api.Val{
		text(""), text("a"), text("some text"), text("\x00\xff\r\n"),
		list(""), list("b", "a", "b"), list(odd()...), set(""), set("a", "b"), set(odd()...),
		hash("a", "bc"), hash("", ""), hash("a", "", "b", "x"), hash(twice(odd())...),
		sorted("b", "a"), sorted(odd()...), scored("", 0),
	}
	falling := odd()
	slices.Reverse(falling)
	same := sorted(odd()...)
	for i := range same.Scores {
		same.Scores[i].Score = -7
	}
	out = append(out, list(falling...), sorted(falling...), same)
	for _, score := range edges() {
		out = append(out, scored("m", score))
	}
	return out
}

// great are values with as much as may be.
func great() []api.Val {
	n := numbered(200)
	falling := slices.Clone(n)
	slices.Reverse(falling)
	full := numbered(200)
	for i := range full {
		full[i] += long(512 - len(full[i]))
	}
	return []api.Val{
		text(long(512)), list(n...), list(slices.Repeat([]string{""}, 200)...), list(falling...), list(full...), set(n...), set(full...),
		hash(twice(n)...), hash(twice(full)...), sorted(n...), sorted(falling...), sorted(full...),
		list(long(512)), set(long(512)), hash(long(512), long(512)), scored(long(512), -1),
	}
}

// copied is a value in new memory.
func copied(v api.Val) api.Val {
	v.Pairs, v.List, v.Scores = slices.Clone(v.Pairs), slices.Clone(v.List), slices.Clone(v.Scores)
	return v
}

// alike tells whether plain data are the same, without the program's help.
func alike(a, b api.Val) bool {
	return a.Kind == b.Kind && a.Text == b.Text && slices.Equal(a.Pairs, b.Pairs) && slices.Equal(a.List, b.List) && slices.Equal(a.Scores, b.Scores)
}

// zero tells whether an entry is zero.
func zero(e api.Entry) bool { return e.Key == "" && e.At == 0 && alike(e.Val, api.Val{}) }

// plainCheck is Check by the chapter's words.
func plainCheck(v api.Val) api.Errno {
	foreign := []bool{v.Kind != 1 && v.Text != "", v.Kind != 2 && len(v.Pairs) > 0, v.Kind != 3 && v.Kind != 4 && len(v.List) > 0, v.Kind != 5 && len(v.Scores) > 0}
	var texts, falling []string
	for i, p := range v.Pairs {
		texts = append(texts, p.Field, p.Text)
		if i > 0 && bytes.Compare([]byte(v.Pairs[i-1].Field), []byte(p.Field)) >= 0 {
			falling = append(falling, p.Field)
		}
	}
	for i, s := range v.List {
		texts = append(texts, s)
		if v.Kind == 4 && i > 0 && bytes.Compare([]byte(v.List[i-1]), []byte(s)) >= 0 {
			falling = append(falling, s)
		}
	}
	for i, s := range v.Scores {
		texts = append(texts, s.Member)
		for j, b := range v.Scores[:i] {
			if b.Member == s.Member || j == i-1 && (b.Score > s.Score || b.Score == s.Score && b.Member > s.Member) {
				falling = append(falling, s.Member)
			}
		}
	}
	n := len(v.Pairs) + len(v.List) + len(v.Scores)
	switch {
	case v.Kind < 1 || v.Kind > 5 || slices.Contains(foreign, true) || v.Kind != 1 && n == 0:
		return api.EARG
	case n > 200:
		return api.EFULL
	case slices.ContainsFunc(append(texts, v.Text), func(s string) bool { return len(s) > 512 }):
		return api.ELONG
	case len(falling) > 0:
		return api.EORDER
	}
	return api.OK
}

// plainEntry is Entry by the chapter's words.
func plainEntry(e api.Entry) api.Errno {
	if n := len(e.Key); n < 1 || n > 64 || e.At < 0 || e.At > most {
		return api.EARG
	}
	return plainCheck(e.Val)
}

// layText is bytes, and a text behind them, how long it is ahead.
func layText(b []byte, s string) []byte {
	return append(binary.BigEndian.AppendUint32(b, uint32(len(s))), s...)
}

// plainEncode is the bytes by the chapter's words, whether the entry may be or not.
func plainEncode(e api.Entry) []byte {
	b := binary.BigEndian.AppendUint64(layText(nil, e.Key), uint64(e.At))
	b = append(b, byte(e.Val.Kind))
	if e.Val.Kind == 1 {
		return layText(b, e.Val.Text)
	}
	b = binary.BigEndian.AppendUint64(b, uint64(len(e.Val.Pairs)+len(e.Val.List)+len(e.Val.Scores)))
	for _, p := range e.Val.Pairs {
		b = layText(layText(b, p.Field), p.Text)
	}
	for _, s := range e.Val.List {
		b = layText(b, s)
	}
	for _, s := range e.Val.Scores {
		b = binary.BigEndian.AppendUint64(layText(b, s.Member), uint64(s.Score))
	}
	return b
}

// plainReader reads bytes; bad: there were too few.
type plainReader struct {
	left []byte
	bad  bool
}

func (r *plainReader) take(n uint64) []byte {
	if n > uint64(len(r.left)) {
		r.bad, r.left = true, nil
		return nil
	}
	out := r.left[:n]
	r.left = r.left[n:]
	return out
}

func (r *plainReader) number(bytes uint64) uint64 {
	var n uint64
	for _, c := range r.take(bytes) {
		n = n<<8 | uint64(c)
	}
	return n
}

func (r *plainReader) text() string { return string(r.take(r.number(4))) }

// plainDecode is the entry of bytes by the chapter's words; false: there is none.
func plainDecode(b []byte) (api.Entry, bool) {
	r := &plainReader{left: b}
	e := api.Entry{Key: r.text()}
	e.At = int(r.number(8))
	e.Val.Kind = int(r.number(1))
	if e.Val.Kind == 1 {
		e.Val.Text = r.text()
	} else {
		for n := r.number(8); n > 0 && !r.bad; n-- {
			switch s := r.text(); e.Val.Kind {
			case 2:
				e.Val.Pairs = append(e.Val.Pairs, api.Pair{Field: s, Text: r.text()})
			case 3, 4:
				e.Val.List = append(e.Val.List, s)
			case 5:
				e.Val.Scores = append(e.Val.Scores, api.Score{Member: s, Score: int(r.number(8))})
			}
		}
	}
	if r.bad || len(r.left) > 0 || plainEntry(e) != api.OK {
		return api.Entry{}, false
	}
	return e, true
}

// decodes asks that bytes are decoded as by the chapter's words; it tells whether they are an entry's.
func decodes(t *testing.T, what string, b []byte) bool {
	t.Helper()
	want, there := plainDecode(b)
	got, e := value.Decode(b)
	if there != (e == api.OK) || !there && e != api.EFORM || got.Key != want.Key || got.At != want.At || !alike(got.Val, want.Val) {
		t.Fatalf("%s: of %d bytes %x: %d, %.300v, want %v, %.300v", what, len(b), b[:min(len(b), 200)], e, got, there, want)
	}
	if again, _ := value.Encode(got); there && !bytes.Equal(again, b) {
		t.Fatalf("%s: %x is decoded, and encoded as %x", what, b[:min(len(b), 200)], again[:min(len(again), 200)])
	}
	return there
}
