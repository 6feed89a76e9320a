package space_test

import (
	"math"
	"math/rand"
	"slices"
	"strconv"
	"testing"

	"intaglio/api"
	"intaglio/space"
	"intaglio/value"
)

// times are times that a key may be told to go at, and at which is swept.
func times() []int {
	return []int{math.MinInt, -1 << 40, -2, -1, 0, 1, 2, 3, 1<<40 - 1, 1 << 40, 1<<40 + 1, math.MaxInt - 1, math.MaxInt}
}

// P16.2: the example.
func TestExample(t *testing.T) {
	b := newBoth()
	b.set(t, "k", text("v"), 5)
	if l := b.s.Sweep(4); len(l) != 0 {
		t.Errorf("at 4: %q", l)
	}
	b.stands(t, "at 4")
	if l := b.s.Sweep(5); !slices.Equal(l, []string{"k"}) {
		t.Errorf("at 5: %q", l)
	}
	b.p.drop("k")
	b.stands(t, "at 5")
}

// P16.1, P16.2: a space without keys, and with one.
func TestNoneAndOne(t *testing.T) {
	newBoth().stands(t, "new")
	for _, key := range append(odd(), long(64), long(65), long(5000)) {
		for i, v := range values() {
			b := newBoth()
			b.drop(t, key)
			b.expire(t, key, 3)
			b.sweep(t, math.MaxInt)
			b.stands(t, "none")
			b.set(t, key, v, i%3)
			b.stands(t, "one")
			b.key(t, "one", key)
			b.drop(t, key)
			b.stands(t, "none more")
			b.drop(t, key)
			b.set(t, key, v, 1-i%2)
			b.stands(t, "one again")
		}
	}
}

// P16.1, P16.2: many keys, of which one begins with another, with values of all kinds; all of them rise.
func TestMany(t *testing.T) {
	b := newBoth()
	for i := range 700 {
		b.set(t, strconv.Itoa(i*7919%1000), values()[i%len(values())], i%4)
		b.set(t, odd()[i%len(odd())]+strconv.Itoa(i%30), values()[i/3%len(values())], i%3)
	}
	b.stands(t, "many")
	for i := range 1000 {
		if i%3 > 0 {
			b.drop(t, strconv.Itoa(i))
		}
	}
	b.stands(t, "some dropped")
	b.sweep(t, 2)
	b.stands(t, "some swept")
	for _, key := range b.s.Keys() {
		b.drop(t, key)
	}
	b.stands(t, "all dropped")
}

// P16.1: what is set stands there, whatever was there: another kind, another time; below 0 it is to stay.
func TestSetTwice(t *testing.T) {
	for _, first := range times() {
		for _, second := range times() {
			b := full(t)
			for i, v := range values() {
				b.set(t, "k", v, first)
				b.stands(t, "set")
				b.set(t, "k", values()[(i*5+3)%len(values())], second)
				b.stands(t, "set again")
			}
		}
	}
}

// P16.1, P16.2: of a key that is set or expired twice, the second time alone counts for a Sweep.
func TestTwiceThenSweep(t *testing.T) {
	for _, first := range times() {
		for _, second := range times() {
			for _, now := range times() {
				b := newBoth()
				b.set(t, "set", text("a"), first)
				b.set(t, "expired", text("b"), first)
				b.set(t, "other", text("c"), 2)
				b.set(t, "set", text("d"), second)
				b.expire(t, "expired", second)
				b.sweep(t, now)
				b.stands(t, "swept")
				b.sweep(t, now)
				b.stands(t, "swept again")
			}
		}
	}
}

// P16.1: Set tells true; false of nil, and of what is no value: nothing is done then.
func TestSetNil(t *testing.T) {
	for _, v := range []*value.Value{nil, new(value.Value), {}} {
		for _, at := range times() {
			b := full(t)
			for _, key := range []string{"", "a", "\xff", "no key"} {
				if b.s.Set(key, v, at) {
					t.Errorf("%q: true", key)
				}
				b.stands(t, "no value")
			}
			empty := newBoth()
			if empty.s.Set("k", v, at) {
				t.Error("true")
			}
			empty.stands(t, "no value")
			b.sweep(t, 3)
			b.stands(t, "no value, swept")
		}
	}
}

// P16.1: a value that has no elements yet may be set too.
func TestSetEmpty(t *testing.T) {
	for kind := api.VString; kind <= api.VZset; kind++ {
		b := full(t)
		for _, key := range []string{"a", "no key"} {
			if !b.s.Set(key, value.New(kind), 4) {
				t.Errorf("%d: false", kind)
			}
			b.p.set(key, api.Val{Kind: kind}, 4)
			b.stands(t, "empty")
		}
	}
}

// change changes a value, whatever kind it has.
func change(v *value.Value) {
	v.SetText("changed")
	v.SetField("changed", "x")
	v.SetField("a", "changed")
	v.CutField("")
	v.Add("changed")
	v.Cut("a")
	v.SetItems([]string{"changed"})
	if z := v.Sorted(); z != nil {
		z.Put("changed", 5)
		z.Drop("b")
	}
}

// P16.1: a value that was given to Set, or that Get told, is its own: what befalls it befalls no key.
func TestOwnValues(t *testing.T) {
	for _, x := range values() {
		b := full(t)
		given := made(t, x)
		b.s.Set("k", given, 7)
		b.s.Set("l", given, 0)
		b.p.set("k", x, 7)
		b.p.set("l", x, 0)
		change(given)
		b.stands(t, "the given one changed")
		one, _ := b.s.Get("k")
		two, _ := b.s.Get("k")
		change(one)
		b.stands(t, "the told one changed")
		if !alike(two.Plain(), x) {
			t.Errorf("another one is changed: %.200v, want %.200v", two.Plain(), x)
		}
		b.s.Set("k", one, 0)
		b.p.set("k", one.Plain(), 0)
		b.stands(t, "set again")
		b.drop(t, "k")
		if !alike(two.Plain(), x) {
			t.Errorf("dropped: %.200v, want %.200v", two.Plain(), x)
		}
		b.stands(t, "dropped")
	}
}

// P16.1: Expire of a key that is there, that is not, and that is to stay; below 0 it is to stay too.
func TestExpire(t *testing.T) {
	for _, first := range times() {
		b := newBoth()
		b.set(t, "k", hash("a", "b"), first)
		for _, at := range append(times(), 5, 5, 9, 0, 5) {
			b.expire(t, "k", at)
			b.expire(t, "no key", at)
			b.expire(t, "", at)
			b.stands(t, "expired")
		}
		b.drop(t, "k")
		b.expire(t, "k", 1)
		b.sweep(t, math.MaxInt)
		b.stands(t, "dropped")
	}
}

// P16.2, P16.5: a key goes at its time, and not just below it; twice it goes once.
func TestSweep(t *testing.T) {
	for _, at := range times() {
		for _, now := range times() {
			b := newBoth()
			for d, key := range []string{"just ahead", "at", "just behind"} {
				if d := d - 1; d < 0 || at < math.MaxInt {
					b.set(t, key, list(key), max(at, 1)+d)
				}
			}
			b.set(t, "stays", text(""), 0)
			b.sweep(t, now)
			b.stands(t, "swept")
			b.sweep(t, now)
			b.stands(t, "swept again")
			for _, key := range b.s.Keys() {
				if at, _ := b.s.At(key); 1 <= at && at <= now {
					t.Errorf("%q goes at %d, and is there at %d", key, at, now)
				}
			}
		}
	}
}

// P16.2: what goes at many times goes at each of them, rising, however it was told.
func TestSweepOrder(t *testing.T) {
	rnd := rand.New(rand.NewSource(3))
	for n := range 60 {
		b := newBoth()
		for _, i := range rnd.Perm(n) {
			b.set(t, strconv.Itoa(i), text("t"), rnd.Intn(9))
		}
		for _, key := range odd() {
			b.set(t, key, text("t"), 1+rnd.Intn(3))
		}
		for now := -1; now < 10; now += 1 + rnd.Intn(3) {
			b.sweep(t, now)
			b.stands(t, "swept")
		}
		b.sweep(t, math.MaxInt)
		b.stands(t, "swept all")
	}
}

// P16.2: a key that was dropped, set anew or expired anew goes when it was told last, and is told once.
func TestStale(t *testing.T) {
	befall := map[string]func(b *both){
		"dropped":        func(b *both) { b.drop(t, "k") },
		"set to stay":    func(b *both) { b.set(t, "k", text("n"), 0) },
		"set below 0":    func(b *both) { b.set(t, "k", text("n"), -5) },
		"set later":      func(b *both) { b.set(t, "k", text("n"), 9) },
		"set earlier":    func(b *both) { b.set(t, "k", text("n"), 2) },
		"set the same":   func(b *both) { b.set(t, "k", text("n"), 5) },
		"expired later":  func(b *both) { b.expire(t, "k", 9) },
		"expired sooner": func(b *both) { b.expire(t, "k", 2) },
		"expired again":  func(b *both) { b.expire(t, "k", 5) },
		"to stay":        func(b *both) { b.expire(t, "k", 0) },
		"swept":          func(b *both) { b.sweep(t, 5) },
	}
	for one, first := range befall {
		for two, second := range befall {
			for three, third := range befall {
				for _, more := range []int{0, 5} {
					what := one + ", " + two + ", " + three
					b := newBoth()
					for i := range more { // so that what is stale stays in the heap
						b.set(t, strconv.Itoa(i), text("m"), 4+i%2)
					}
					b.set(t, "k", text("v"), 5)
					first(b)
					second(b)
					third(b)
					b.stands(t, what)
					for _, now := range []int{1, 2, 4, 5, 5, 8, 9, math.MaxInt} {
						b.sweep(t, now)
						b.stands(t, what+", swept")
					}
				}
			}
		}
	}
}

// P16.2: 32 of each key, its bytes, and its value's size; behind each call.
func TestUsed(t *testing.T) {
	s := space.New()
	used := func(what string, want int) {
		t.Helper()
		if got := s.Used(); got != want {
			t.Errorf("%s: %d, want %d", what, got, want)
		}
	}
	used("none", 0)
	s.Set("", made(t, text("")), 0)
	used("a key without bytes", 48)
	s.Set("key", made(t, text("abc")), 5)
	used("a string", 48+54)
	s.Set("key", made(t, hash("a", "bc")), 0)
	used("a hash", 48+35+27)
	s.Set("key", made(t, list("a", "", "bc")), 7)
	used("a list", 48+35+43)
	s.Set("key", made(t, set("a", "bc")), 7)
	used("a set", 48+35+35)
	s.Set("key", made(t, sorted("a", "bc")), 7)
	used("a sorted set", 48+35+51)
	s.Expire("key", 8)
	s.Expire("no key", 8)
	s.Get("key")
	s.Clone().Drop("key")
	used("expired", 48+86)
	s.Sweep(7)
	used("swept ahead", 48+86)
	s.Sweep(8)
	used("swept", 48)
	s.Drop("key")
	used("dropped what is gone", 48)
	s.Drop("")
	used("dropped", 0)
}

// P16.3: Dump tells an entry of each key, by rising keys; what it told is nobody else's.
func TestDump(t *testing.T) {
	if l := space.New().Dump(); len(l) != 0 {
		t.Errorf("none: %v", l)
	}
	b := full(t)
	first, second := b.s.Dump(), b.s.Dump()
	for i := range first {
		first[i].Key, first[i].At = "changed", 99
		for j := range first[i].Val.List {
			first[i].Val.List[j] = "changed"
		}
		for j := range first[i].Val.Pairs {
			first[i].Val.Pairs[j].Text = "changed"
		}
		for j := range first[i].Val.Scores {
			first[i].Val.Scores[j].Score = -99
		}
	}
	if !sameEntries(second, b.p.dump()) {
		t.Errorf("another one is changed: %.300v", second)
	}
	b.stands(t, "told")
	keys := b.s.Keys()
	clear(keys)
	b.stands(t, "keys told")
}

// P16.1 to P16.5: any steps leave what the chapter says.
func TestAnySteps(t *testing.T) {
	for seed := range int64(40) {
		rnd := rand.New(rand.NewSource(seed))
		b, aside := newBoth(), newBoth()
		at := func() int { return rnd.Intn(14) - 3 }
		for step := range 400 {
			key := odd()[rnd.Intn(len(odd()))]
			switch rnd.Intn(9) {
			case 0, 1, 2:
				b.set(t, key, values()[rnd.Intn(len(values()))], at())
			case 3:
				b.drop(t, key)
			case 4, 5:
				b.expire(t, key, at())
			case 6:
				if step%3 == 0 {
					b.sweep(t, at())
				}
			case 7:
				aside = &both{b.s.Clone(), plain{}}
				for key, e := range b.p {
					aside.p[key] = e
				}
			case 8:
				b, aside = aside, b
			}
			b.stands(t, "a step")
			aside.stands(t, "aside")
		}
	}
}
