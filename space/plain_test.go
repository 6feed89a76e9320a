package space_test

import (
	"bytes"
	"maps"
	"math"
	"slices"
	"strings"
	"testing"

	"intaglio/api"
	"intaglio/space"
	"intaglio/value"
)

// plain is a space by the chapter's words: what stands by each key, and when it goes.
type plain map[string]api.Entry

func (p plain) set(key string, v api.Val, at int) {
	p[key] = api.Entry{Key: key, Val: v, At: max(at, 0)}
}

func (p plain) drop(key string) bool {
	_, there := p[key]
	delete(p, key)
	return there
}

func (p plain) expire(key string, at int) bool {
	e, there := p[key]
	if there {
		p.set(key, e.Val, at)
	}
	return there
}

func (p plain) sweep(now int) []string {
	var gone []string
	for _, key := range p.keys() {
		if at := p[key].At; 1 <= at && at <= now {
			p.drop(key)
			gone = append(gone, key)
		}
	}
	return gone
}

func (p plain) keys() []string {
	return slices.SortedFunc(maps.Keys(p), func(a, b string) int { return bytes.Compare([]byte(a), []byte(b)) })
}

func (p plain) dump() []api.Entry {
	var out []api.Entry
	for _, key := range p.keys() {
		out = append(out, p[key])
	}
	return out
}

// plainSize is Size of value by its chapter's words.
func plainSize(v api.Val) int {
	n := 16 + len(v.Text)
	for _, p := range v.Pairs {
		n += 8 + len(p.Field) + len(p.Text)
	}
	for _, s := range v.List {
		n += 8 + len(s)
	}
	for _, s := range v.Scores {
		n += 8 + len(s.Member) + 8
	}
	return n
}

func (p plain) used() int {
	n := 0
	for key, e := range p {
		n += 32 + len(key) + plainSize(e.Val)
	}
	return n
}

// long is a text of so many bytes.
func long(n int) string { return strings.Repeat("x", n) }

// odd are keys that may be taken for one another, or for none, rising.
func odd() []string {
	return []string{"", "\x00", "\x00\x00", "0", "A", "a", "a\x00", "aa", "ab", "b", "\x7f", "\x80", "é", "\xff", "\xff\xff"}
}

func text(s string) api.Val { return api.Val{Kind: api.VString, Text: s} }

func list(l ...string) api.Val { return api.Val{Kind: api.VList, List: l} }

func set(l ...string) api.Val { return api.Val{Kind: api.VSet, List: l} }

// hash is a hash of fields and texts, one behind the other.
func hash(l ...string) api.Val {
	v := api.Val{Kind: api.VHash}
	for i := 0; i+1 < len(l); i += 2 {
		v.Pairs = append(v.Pairs, api.Pair{Field: l[i], Text: l[i+1]})
	}
	return v
}

// sorted is a sorted set of members whose scores are their places.
func sorted(l ...string) api.Val {
	v := api.Val{Kind: api.VZset}
	for i, m := range l {
		v.Scores = append(v.Scores, api.Score{Member: m, Score: i})
	}
	return v
}

// values are values of all kinds, small and great ones.
func values() []api.Val {
	return []api.Val{
		text(""), text("a"), text("\x00\xff\r\n"), text(long(512)),
		hash("a", "bc"), hash("", ""), hash("a", "", "b", long(512)),
		list(""), list("b", "a", "b"), list(odd()...), list(long(512)),
		set(""), set("a", "b"), set(odd()...),
		sorted("b", "a"), sorted(odd()...), {Kind: api.VZset, Scores: []api.Score{{Member: "m", Score: math.MinInt}, {Member: "", Score: math.MaxInt}}},
	}
}

// made is a value that has what plain data says.
func made(t *testing.T, x api.Val) *value.Value {
	t.Helper()
	v, e := value.Of(x)
	if e != api.OK {
		t.Fatalf("%.200v: %d", x, e)
	}
	return v
}

// alike tells whether plain data are the same, without the program's help.
func alike(a, b api.Val) bool {
	return a.Kind == b.Kind && a.Text == b.Text && slices.Equal(a.Pairs, b.Pairs) && slices.Equal(a.List, b.List) && slices.Equal(a.Scores, b.Scores)
}

// sameEntries tells whether entries are the same.
func sameEntries(a, b []api.Entry) bool {
	return slices.EqualFunc(a, b, func(x, y api.Entry) bool { return x.Key == y.Key && x.At == y.At && alike(x.Val, y.Val) })
}

// both is a space, and the plain one that it is to be like.
type both struct {
	s *space.Space
	p plain
}

func newBoth() *both { return &both{space.New(), plain{}} }

// full is a space of odd keys, of all kinds of values, that go at the times 0 to 4.
func full(t *testing.T) *both {
	t.Helper()
	b := newBoth()
	for i, key := range odd() {
		b.set(t, key, values()[i%len(values())], i%5)
	}
	return b
}

func (b *both) set(t *testing.T, key string, v api.Val, at int) {
	t.Helper()
	if !b.s.Set(key, made(t, v), at) {
		t.Fatalf("set of %q at %d: false", key, at)
	}
	b.p.set(key, v, at)
}

func (b *both) drop(t *testing.T, key string) {
	t.Helper()
	if got, want := b.s.Drop(key), b.p.drop(key); got != want {
		t.Fatalf("drop of %q: %v, want %v", key, got, want)
	}
}

func (b *both) expire(t *testing.T, key string, at int) {
	t.Helper()
	if got, want := b.s.Expire(key, at), b.p.expire(key, at); got != want {
		t.Fatalf("expire of %q at %d: %v, want %v", key, at, got, want)
	}
}

func (b *both) sweep(t *testing.T, now int) {
	t.Helper()
	if got, want := b.s.Sweep(now), b.p.sweep(now); !slices.Equal(got, want) {
		t.Fatalf("sweep at %d: %q, want %q", now, got, want)
	}
}

// key asks all that a space can be asked of a key.
func (b *both) key(t *testing.T, what, key string) {
	t.Helper()
	want, there := b.p[key]
	v, ok := b.s.Get(key)
	if ok != there || (v != nil) != there || !alike(v.Plain(), want.Val) {
		t.Fatalf("%s: by %q stands %.200v %v, want %.200v %v", what, key, v.Plain(), ok, want.Val, there)
	}
	if at, ok := b.s.At(key); ok != there || at != want.At {
		t.Fatalf("%s: %q goes at %d %v, want %d %v", what, key, at, ok, want.At, there)
	}
}

// stands asks all that a space can be asked.
func (b *both) stands(t *testing.T, what string) {
	t.Helper()
	if got, want := b.s.Keys(), b.p.keys(); !slices.Equal(got, want) || b.s.Len() != len(want) {
		t.Fatalf("%s: %d keys, %q, want %q", what, b.s.Len(), got, want)
	}
	if got, want := b.s.Used(), b.p.used(); got != want {
		t.Fatalf("%s: %d bytes, want %d", what, got, want)
	}
	if got, want := b.s.Dump(), b.p.dump(); !sameEntries(got, want) {
		t.Fatalf("%s: %.500v, want %.500v", what, got, want)
	}
	for _, key := range append(b.p.keys(), append(odd(), "no key", long(64), long(65))...) {
		b.key(t, what, key)
	}
}
