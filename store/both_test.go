package store_test

import (
	"slices"
	"strconv"
	"strings"
	"testing"

	"intaglio/api"
	"intaglio/store"
)

// plenty is memory that no test uses up.
const plenty = 1 << 30

// long is a text of so many bytes.
func long(n int) string { return strings.Repeat("x", n) }

// both is a store, and the plain one that it is to be like.
type both struct {
	s         *store.Store
	p         *plain
	now, draw int
	said      []string // all words that it was told
}

func newBoth(most int) *both { return &both{s: store.New(most), p: newPlain(most)} }

// loaded is a store of entries.
func loaded(t *testing.T, most int, l ...api.Entry) *both {
	t.Helper()
	s, e := store.Load(most, l)
	if e != api.OK {
		t.Fatalf("Load: %d", e)
	}
	b := &both{s: s, p: newPlain(most, l...)}
	for _, x := range l {
		b.said = append(b.said, x.Key)
	}
	return b
}

// sameReply tells whether two replies are the same.
func sameReply(a, b api.Reply) bool {
	return a.Kind == b.Kind && a.Text == b.Text && a.Int == b.Int && slices.EqualFunc(a.List, b.List, sameReply)
}

// show is a reply as a text: texts stand between ', no text is nil.
func show(r api.Reply) string {
	switch r.Kind {
	case api.RSimple:
		return "+" + r.Text
	case api.RError:
		return "-" + r.Text
	case api.RInt:
		return strconv.Itoa(r.Int)
	case api.RBulk:
		return "'" + r.Text + "'"
	case api.RNil:
		return "nil"
	case api.RArray:
		var l []string
		for _, x := range r.List {
			l = append(l, show(x))
		}
		return "[" + strings.Join(l, " ") + "]"
	}
	return "kind " + strconv.Itoa(r.Kind)
}

// words are those of a line: "" is one without bytes, <n> one of n bytes.
func words(line string) []string {
	l := strings.Fields(line)
	for i, w := range l {
		if w == `""` {
			l[i] = ""
		}
		if n, err := strconv.Atoi(strings.Trim(w, "<>")); err == nil && w[0] == '<' {
			l[i] = long(n)
		}
	}
	return l
}

// do does a command in both, asks for all that can be told of them behind it, and tells the reply.
func (b *both) do(t *testing.T, args ...string) api.Reply {
	t.Helper()
	kept := slices.Clone(args)
	got, want := b.s.Do(b.now, b.draw, args), b.p.do(b.now, b.draw, args)
	if !sameReply(got, want) {
		t.Fatalf("%.300q at %d, draw %d: %.600s, want %.600s", args, b.now, b.draw, show(got), show(want))
	}
	if !slices.Equal(args, kept) {
		t.Fatalf("%.300q: the words are %.300q now", kept, args)
	}
	b.said = append(b.said, args...)
	b.stands(t, args)
	return got
}

// stands asks for all that can be told of both.
func (b *both) stands(t *testing.T, behind []string) {
	t.Helper()
	got, want := b.s.Dump(), b.p.dump()
	if !slices.EqualFunc(got, want, sameEntry) {
		t.Fatalf("behind %.300q at %d: %.900v, want %.900v", behind, b.now, got, want)
	}
	if n := b.s.Used(); n != used(want) {
		t.Fatalf("behind %.300q at %d: %d bytes are used, want %d", behind, b.now, n, used(want))
	}
	for _, key := range b.said {
		if n := b.s.Version(key); n != b.p.versions[key] {
			t.Fatalf("behind %.300q at %d: version of %.80q: %d, want %d", behind, b.now, key, n, b.p.versions[key])
		}
	}
}

// sweep lets go in both what goes by a time.
func (b *both) sweep(t *testing.T, now int) int {
	t.Helper()
	got, want := b.s.Sweep(now), b.p.sweep(now)
	if got != want {
		t.Fatalf("Sweep(%d): %d, want %d", now, got, want)
	}
	b.stands(t, []string{"Sweep"})
	return got
}

// told does the commands of lines, each of which is followed by what is told of it.
func (b *both) told(t *testing.T, lines ...string) {
	t.Helper()
	for i := 0; i+1 < len(lines); i += 2 {
		if got := show(b.do(t, words(lines[i])...)); got != lines[i+1] {
			t.Errorf("%s: %.600s, want %.600s", lines[i], got, lines[i+1])
		}
	}
}

// each does the same in a new store of its own for each of some lines, behind some others.
func each(t *testing.T, ahead []string, lines ...string) {
	t.Helper()
	for i := 0; i+1 < len(lines); i += 2 {
		b := newBoth(plenty)
		b.now = 10
		b.told(t, ahead...)
		b.told(t, lines[i], lines[i+1])
	}
}

// version asks for a key's version.
func (b *both) version(t *testing.T, what, key string, want int) {
	t.Helper()
	if got := b.s.Version(key); got != want {
		t.Errorf("%s: version of %s: %d, want %d", what, key, got, want)
	}
}

// entries are keys of all kinds, of which some go.
func entries() []api.Entry {
	return []api.Entry{
		{Key: "h", Val: api.Val{Kind: api.VHash, Pairs: []api.Pair{{Field: "", Text: "text"}, {Field: "1", Text: "9"}, {Field: "a", Text: ""}, {Field: "b", Text: "a"}}}, At: 50},
		{Key: "l", Val: api.Val{Kind: api.VList, List: []string{"a", "b", "a", "", "1", "a"}}, At: 60},
		{Key: "m", Val: api.Val{Kind: api.VList, List: []string{"a"}}},
		{Key: "s", Val: api.Val{Kind: api.VString, Text: "-7"}, At: 70},
		{Key: "t", Val: api.Val{Kind: api.VString, Text: "text"}},
		{Key: "u", Val: api.Val{Kind: api.VSet, List: []string{"", "1", "a"}}, At: 80},
		{Key: "v", Val: api.Val{Kind: api.VSet, List: []string{"a"}}},
		{Key: "z", Val: api.Val{Kind: api.VZset, Scores: []api.Score{{Member: "b", Score: -1}, {Member: "", Score: 1}, {Member: "a", Score: 1}, {Member: "1", Score: 7}}}, At: 90},
	}
}
