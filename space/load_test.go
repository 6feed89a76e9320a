package space_test

import (
	"math"
	"slices"
	"testing"

	"intaglio/api"
	"intaglio/space"
)

// rising are entries that may be loaded, of odd keys and of keys of 64 bytes.
func rising() []api.Entry {
	var l []api.Entry
	for i, v := range values() {
		keys := append(odd()[1:13], "\xff", "\xff\xff", "\xff\xff"+long(62), "\xff\xffy", "\xff\xffz")
		l = append(l, api.Entry{Key: keys[i], Val: v, At: []int{0, 1, 5, 1 << 40}[i%4]})
	}
	return l
}

// copied is entries in new memory, with spare room.
func copied(l []api.Entry) []api.Entry {
	out := make([]api.Entry, 0, len(l)+3)
	for _, e := range l {
		e.Val.Pairs, e.Val.List, e.Val.Scores = slices.Clone(e.Val.Pairs), slices.Clone(e.Val.List), slices.Clone(e.Val.Scores)
		out = append(out, e)
	}
	return out
}

// loaded is a space of entries, and the plain one.
func loaded(t *testing.T, l []api.Entry) *both {
	t.Helper()
	s, e := space.Load(l)
	if e != api.OK || s == nil {
		t.Fatalf("%.300v: %d", l, e)
	}
	p := plain{}
	for _, e := range l {
		p[e.Key] = e
	}
	return &both{s, p}
}

// P16.3: a space of entries: none, one, many; it may be changed and swept as any one.
func TestLoad(t *testing.T) {
	for n := range len(rising()) + 1 {
		b := loaded(t, rising()[:n])
		b.stands(t, "loaded")
		b.set(t, "more", text("m"), 3)
		b.expire(t, "a", 2)
		b.drop(t, "\x00")
		b.stands(t, "changed")
		for _, now := range []int{0, 1, 2, 3, 4, 5, 1<<40 - 1, 1 << 40} {
			b.sweep(t, now)
			b.stands(t, "swept")
		}
	}
	loaded(t, nil).stands(t, "nil")
	loaded(t, []api.Entry{}).stands(t, "empty")
}

// P16.3, rule 4: entries that are handed in are not changed, and not kept.
func TestLoadKeepsNone(t *testing.T) {
	l := copied(rising())
	l[:len(l)+1][len(l)].Key = "spare"
	b := loaded(t, l)
	b.sweep(t, 5)
	for _, key := range b.s.Keys() {
		b.expire(t, key, 9)
	}
	if !sameEntries(l, rising()) || l[:len(l)+1][len(l)].Key != "spare" {
		t.Errorf("changed: %.300v", l)
	}
	b = loaded(t, l)
	b.p = loaded(t, rising()).p
	for i := range l {
		clear(l[i].Val.Pairs)
		clear(l[i].Val.List)
		clear(l[i].Val.Scores)
	}
	clear(l)
	b.stands(t, "the list changed")
}

// refuses asks that entries are not loaded.
func refuses(t *testing.T, what string, l []api.Entry, want api.Errno) {
	t.Helper()
	if s, e := space.Load(l); e != want || s != nil {
		t.Errorf("%s: %d, %v, want %d", what, e, s != nil, want)
	}
}

// P16.3: each error of an entry is told, wherever the entry stands.
func TestLoadWrong(t *testing.T) {
	wrong := []struct {
		e    api.Entry
		want api.Errno
	}{
		{api.Entry{Key: "", Val: text("a")}, api.EARG},
		{api.Entry{Key: long(65), Val: text("a")}, api.EARG},
		{api.Entry{Key: "k", Val: text("a"), At: -1}, api.EARG},
		{api.Entry{Key: "k", Val: text("a"), At: math.MinInt}, api.EARG},
		{api.Entry{Key: "k", Val: text("a"), At: 1<<40 + 1}, api.EARG},
		{api.Entry{Key: "k"}, api.EARG},
		{api.Entry{Key: "k", Val: api.Val{Kind: 6}}, api.EARG},
		{api.Entry{Key: "k", Val: list()}, api.EARG},
		{api.Entry{Key: "k", Val: api.Val{Kind: api.VString, List: []string{"a"}}}, api.EARG},
		{api.Entry{Key: "k", Val: list(make([]string, 201)...)}, api.EFULL},
		{api.Entry{Key: "k", Val: text(long(513))}, api.ELONG},
		{api.Entry{Key: "k", Val: hash(long(513), "")}, api.ELONG},
		{api.Entry{Key: "k", Val: set("b", "a")}, api.EORDER},
		{api.Entry{Key: "k", Val: hash("a", "", "a", "")}, api.EORDER},
		{api.Entry{Key: "k", Val: sorted("a", "a")}, api.EORDER},
	}
	for _, c := range wrong {
		refuses(t, "alone", []api.Entry{c.e}, c.want)
		for i := range len(rising()) + 1 {
			refuses(t, "among others", slices.Insert(rising(), i, c.e), c.want)
		}
		for _, d := range wrong {
			refuses(t, "two", []api.Entry{c.e, d.e}, c.want)
			refuses(t, "two behind others", append(rising(), c.e, d.e), c.want)
		}
	}
}

// P16.3: keys rise, and stand once; an entry's own error comes first, be it the last one.
func TestLoadOrder(t *testing.T) {
	for i := range len(rising()) - 1 {
		l := rising()
		l[i], l[i+1] = l[i+1], l[i]
		refuses(t, "falls", l, api.EORDER)
		l = slices.Insert(rising(), i, rising()[i])
		refuses(t, "twice", l, api.EORDER)
		for _, at := range []int{0, i, i + 1, len(l)} {
			refuses(t, "falls, and one that is too long", slices.Insert(slices.Clone(l), at, api.Entry{Key: "k", Val: text(long(513))}), api.ELONG)
			refuses(t, "falls, and one without a key", slices.Insert(slices.Clone(l), at, api.Entry{Val: text("a")}), api.EARG)
			refuses(t, "falls, and one that is too full", slices.Insert(slices.Clone(l), at, api.Entry{Key: "k", Val: list(make([]string, 201)...)}), api.EFULL)
		}
	}
	for _, keys := range [][]string{{"b", "a"}, {"a", "a"}, {"ab", "a"}, {"\x80", "\x7f"}, {"a", "c", "b"}, {"b", "a", "c"}, {"a", "b", "a"}, {"a", "b", "b"}, {"é", "z"}} {
		var l []api.Entry
		for _, key := range keys {
			l = append(l, api.Entry{Key: key, Val: text("a")})
		}
		refuses(t, "falls", l, api.EORDER)
		slices.SortFunc(l, func(a, b api.Entry) int { return slices.Compare([]byte(a.Key), []byte(b.Key)) })
		l = slices.CompactFunc(l, func(a, b api.Entry) bool { return a.Key == b.Key })
		loaded(t, l).stands(t, "rises")
	}
}

// P16.4: what Dump tells is loaded as it was.
func TestBack(t *testing.T) {
	b := newBoth()
	for i, e := range rising() {
		b.set(t, e.Key, e.Val, e.At)
		b.stands(t, "set")
		back, x := space.Load(b.s.Dump())
		if x != api.OK {
			t.Fatalf("%d: %d", i, x)
		}
		other := &both{back, b.p}
		other.stands(t, "back")
	}
	b.expire(t, "a", 1)
	b.drop(t, "b")
	b.sweep(t, 1)
	back := loaded(t, b.s.Dump())
	for _, now := range []int{1, 4, 5, 1<<40 - 1, 1 << 40} {
		back.sweep(t, now)
		b.sweep(t, now)
		back.stands(t, "back, swept")
		b.stands(t, "swept")
	}
}

// P16.3: a clone and its origin go their own ways.
func TestClone(t *testing.T) {
	befall := map[string]func(b *both){
		"set":      func(b *both) { b.set(t, "a", text("changed"), 2); b.set(t, "more", list("x"), 3) },
		"set late": func(b *both) { b.set(t, "a", text("changed"), 0) },
		"drop":     func(b *both) { b.drop(t, "a"); b.drop(t, "") },
		"expire":   func(b *both) { b.expire(t, "a", 7); b.expire(t, "A", 1); b.expire(t, "b", 0) },
		"sweep":    func(b *both) { b.sweep(t, 2) },
		"get": func(b *both) {
			for _, key := range b.s.Keys() {
				v, _ := b.s.Get(key)
				change(v)
			}
		},
		"nothing": func(*both) {},
	}
	for one, first := range befall {
		for two, second := range befall {
			for _, clone := range []bool{true, false} {
				b := full(t)
				b.expire(t, "b", 3)
				c := &both{b.s.Clone(), plain{}}
				for key, e := range b.p {
					c.p[key] = e
				}
				if clone {
					b, c = c, b
				}
				first(b)
				b.stands(t, one)
				c.stands(t, one+" of the other one")
				second(c)
				b.stands(t, one+", "+two+" of the other one")
				c.stands(t, one+" of the other one, "+two)
				for now := range 9 {
					b.sweep(t, now)
					b.stands(t, "swept")
				}
				c.sweep(t, 9)
				c.stands(t, "swept")
			}
		}
	}
	none := space.New().Clone()
	if none == nil || none.Len() != 0 || !none.Set("k", made(t, text("a")), 1) || none.Len() != 1 {
		t.Error("a clone of a space without keys")
	}
}

// P16.3: of a space that neither New nor Load made nothing is there, and nothing is done.
func TestNotMade(t *testing.T) {
	failed, _ := space.Load([]api.Entry{{}})
	for _, s := range []*space.Space{nil, new(space.Space), {}, failed, (*space.Space)(nil).Clone()} {
		for range 2 {
			for _, key := range []string{"", "a"} {
				if s.Set(key, made(t, text("a")), 1) || s.Set(key, nil, 0) || s.Expire(key, 1) || s.Expire(key, 0) || s.Drop(key) {
					t.Error("something is done")
				}
				v, ok := s.Get(key)
				at, there := s.At(key)
				if v != nil || ok || at != 0 || there {
					t.Errorf("%q is there", key)
				}
			}
			if len(s.Sweep(5)) != 0 || len(s.Sweep(math.MaxInt)) != 0 || len(s.Keys()) != 0 || s.Len() != 0 || s.Used() != 0 || len(s.Dump()) != 0 || s.Clone() != nil {
				t.Error("something is there")
			}
		}
	}
}
