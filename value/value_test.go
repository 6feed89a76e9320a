package value_test

import (
	"math"
	"math/rand"
	"slices"
	"testing"

	"intaglio/api"
	"intaglio/value"
	"intaglio/zset"
)

// made is a value that has what plain data says.
func made(t *testing.T, x api.Val) *value.Value {
	t.Helper()
	v, e := value.Of(x)
	if e != api.OK || v == nil {
		t.Fatalf("%.200v: %d", x, e)
	}
	return v
}

// has asks all that a value can be asked as a whole.
func has(t *testing.T, what string, v *value.Value, want api.Val) {
	t.Helper()
	n := len(want.Text) + len(want.Pairs) + len(want.List) + len(want.Scores)
	if got := v.Plain(); !alike(got, want) || v.Kind() != want.Kind || v.Len() != n {
		t.Fatalf("%s: kind %d, %d, %.200v, want %d, %.200v", what, v.Kind(), v.Len(), got, n, want)
	}
	if v.Text() != want.Text || !slices.Equal(v.Items(), want.List) {
		t.Fatalf("%s: %.200q, %.200q, want %.200v", what, v.Text(), v.Items(), want)
	}
	if z := v.Sorted(); (z != nil) != (want.Kind == api.VZset) || !slices.Equal(z.Range(0, z.Len()), want.Scores) {
		t.Fatalf("%s: %.200v, want %.200v", what, z.Range(0, z.Len()), want.Scores)
	}
	for _, s := range append(odd(), "t1000", "t1199") {
		field, there := v.Field(s)
		i := slices.IndexFunc(want.Pairs, func(p api.Pair) bool { return p.Field == s })
		if there != (i >= 0) || !there && field != "" || there && field != want.Pairs[i].Text {
			t.Fatalf("%s: by %q stands %q %v, want %d of %.200v", what, s, field, there, i, want.Pairs)
		}
		if got := v.Has(s); got != (want.Kind == api.VSet && slices.Contains(want.List, s)) {
			t.Fatalf("%s: has %q: %v, want %.200v", what, s, got, want)
		}
	}
}

// told asks what a call told.
func told(t *testing.T, what string, got, want bool) {
	t.Helper()
	if got != want {
		t.Fatalf("%s: %v, want %v", what, got, want)
	}
}

// P15.3: New is an empty value of each of five kinds; nil, if there is no such kind.
func TestNew(t *testing.T) {
	for kind := api.VString; kind <= api.VZset; kind++ {
		for range 2 {
			v := value.New(kind)
			has(t, "new", v, api.Val{Kind: kind})
			has(t, "a clone", v.Clone(), api.Val{Kind: kind})
		}
	}
	for _, kind := range []int{0, 6, -1, 7, 256, 257, math.MinInt, math.MaxInt} {
		if v := value.New(kind); v != nil {
			t.Errorf("there is a value of kind %d: %v", kind, v.Plain())
		}
	}
}

// P15.3: Of is a value that has what plain data says, and tells it again.
func TestOf(t *testing.T) {
	for _, x := range append(small(), great()...) {
		v := made(t, x)
		for range 2 {
			has(t, "of", v, x)
		}
	}
}

// P15.3, rule 2: of what may be no value Of tells Check's error, and nil.
func TestOfWrong(t *testing.T) {
	for _, x := range append(wrong(), api.Val{}, api.Val{Kind: 6, Text: "a"}, list(), sorted("a", "a"), api.Val{Kind: api.VString, List: []string{"a"}}) {
		want := plainCheck(x)
		if v, e := value.Of(x); want == api.OK || e != want || v != nil {
			t.Errorf("%.200v: %d, %v, want %d", x, e, v, want)
		}
	}
}

// P15.3: a string's text, of any length.
func TestString(t *testing.T) {
	for _, v := range []*value.Value{value.New(api.VString), made(t, text("was there"))} {
		for _, s := range append(odd(), long(512), long(513), long(100000), "") {
			v.SetText(s)
			has(t, "set", v, text(s))
		}
	}
}

// P15.3: a hash's fields: what stands by them, whether they were not there, whether they were.
func TestHash(t *testing.T) {
	v := value.New(api.VHash)
	told(t, "a field that is not there", v.CutField("a"), false)
	told(t, "put", v.SetField("b", "1"), true)
	has(t, "one", v, hash("b", "1"))
	told(t, "put ahead", v.SetField("a", ""), true)
	has(t, "two", v, hash("a", "", "b", "1"))
	told(t, "put again", v.SetField("b", "2"), false)
	told(t, "the same again", v.SetField("b", "2"), false)
	has(t, "another text", v, hash("a", "", "b", "2"))
	told(t, "a field without bytes", v.SetField("", "x"), true)
	has(t, "three", v, hash("", "x", "a", "", "b", "2"))
	told(t, "cut", v.CutField("a"), true)
	told(t, "cut again", v.CutField("a"), false)
	told(t, "cut what begins so", v.CutField("bb"), false)
	has(t, "two", v, hash("", "x", "b", "2"))
	told(t, "put again", v.SetField("a", long(600)), true)
	has(t, "a long text", v, hash("", "x", "a", long(600), "b", "2"))
	for _, f := range []string{"", "a", "b"} {
		told(t, "cut", v.CutField(f), true)
	}
	has(t, "none", v, hash())
}

// P15.3: a set's elements: whether they are there, were not there, were.
func TestSet(t *testing.T) {
	v := value.New(api.VSet)
	told(t, "what is not there", v.Cut("a"), false)
	told(t, "add", v.Add("b"), true)
	told(t, "add again", v.Add("b"), false)
	told(t, "add ahead", v.Add("a"), true)
	told(t, "add one without bytes", v.Add(""), true)
	told(t, "add behind", v.Add("\xff"), true)
	has(t, "four", v, set("", "a", "b", "\xff"))
	told(t, "cut", v.Cut("a"), true)
	told(t, "cut again", v.Cut("a"), false)
	told(t, "cut what begins so", v.Cut("bb"), false)
	has(t, "three", v, set("", "b", "\xff"))
	for _, m := range []string{"\xff", "", "b"} {
		told(t, "cut", v.Cut(m), true)
	}
	has(t, "none", v, set())
	told(t, "add", v.Add("a"), true)
	has(t, "one", v, set("a"))
}

// P15.3: a list has the items that it is given, in that order; a set has them rising, each once.
func TestSetItems(t *testing.T) {
	falling := odd()
	slices.Reverse(falling)
	l, s := value.New(api.VList), value.New(api.VSet)
	for _, items := range [][]string{{"a"}, {"b", "a"}, {"a", "a"}, {"c", "a", "b", "a", "c"}, {""}, {"", ""}, nil, odd(), {}, falling, twice(falling), numbered(300), slices.Repeat([]string{"b"}, 300), {long(600)}} {
		l.SetItems(items)
		has(t, "list", l, list(items...))
		s.SetItems(items)
		rising := slices.Clone(items)
		slices.Sort(rising)
		has(t, "set", s, set(slices.Compact(rising)...))
	}
	s.SetItems([]string{"b", "a"})
	told(t, "add behind", s.Add("c"), true)
	told(t, "add what is there", s.Add("a"), false)
	told(t, "cut", s.Cut("b"), true)
	has(t, "set", s, set("a", "c"))
}

// P15.3: the set that Sorted tells is the value's own.
func TestSorted(t *testing.T) {
	v := value.New(api.VZset)
	z := v.Sorted()
	told(t, "put", z.Put("a", 5), true)
	told(t, "put", v.Sorted().Put("b", 3), true)
	has(t, "two", v, api.Val{Kind: api.VZset, Scores: []api.Score{{Member: "b", Score: 3}, {Member: "a", Score: 5}}})
	told(t, "put again", v.Sorted().Put("a", 1), false)
	has(t, "put again", v, api.Val{Kind: api.VZset, Scores: []api.Score{{Member: "a", Score: 1}, {Member: "b", Score: 3}}})
	if n, ok := z.Rank("b"); n != 1 || !ok || v.Sorted() != z {
		t.Errorf("the set is another one: %d %v", n, ok)
	}
	c := v.Clone()
	told(t, "drop", z.Drop("a"), true)
	has(t, "dropped", v, scored("b", 3))
	told(t, "drop", v.Sorted().Drop("b"), true)
	has(t, "none", v, sorted())
	has(t, "the clone", c, api.Val{Kind: api.VZset, Scores: []api.Score{{Member: "a", Score: 1}, {Member: "b", Score: 3}}})
	told(t, "put into the clone's", c.Sorted().Put("c", 0), true)
	has(t, "the clone", c, api.Val{Kind: api.VZset, Scores: []api.Score{{Member: "c"}, {Member: "a", Score: 1}, {Member: "b", Score: 3}}})
	has(t, "none", v, sorted())
}

// change does all that may change a value of any kind.
func change(v *value.Value) {
	v.SetText("changed")
	v.SetField("a", "changed")
	v.SetField("changed", "b")
	v.CutField("b")
	v.Add("changed")
	v.Cut("a")
	v.SetItems(append(v.Items(), "changed"))
	v.Sorted().Put("changed", 7)
	v.Sorted().Drop("a")
}

// P15.3: a clone is like its origin, and each goes its own way.
func TestClone(t *testing.T) {
	for _, x := range append(small(), great()...) {
		v := made(t, x)
		c, d := v.Clone(), v.Clone().Clone()
		has(t, "clone", c, x)
		change(c)
		if alike(c.Plain(), x) {
			t.Errorf("the clone was not changed: %.200v", x)
		}
		has(t, "an origin whose clone is changed", v, x)
		has(t, "another clone", d, x)
		change(v)
		has(t, "a clone whose origin is changed", d, x)
		if !alike(c.Plain(), v.Plain()) {
			t.Errorf("the same changes of the same value: %.200v and %.200v", c.Plain(), v.Plain())
		}
	}
}

// foreign does with a value what those of other kinds can, and asks that nothing is told or done.
func foreign(t *testing.T, what string, v *value.Value, x api.Val) {
	t.Helper()
	if x.Kind != api.VString {
		v.SetText("a")
		v.SetText("")
	}
	for _, s := range append(odd(), "t1000") {
		if x.Kind != api.VHash {
			told(t, what+", SetField", v.SetField(s, "b"), false)
			told(t, what+", CutField", v.CutField(s), false)
		}
		if x.Kind != api.VSet {
			told(t, what+", Add", v.Add(s), false)
			told(t, what+", Cut", v.Cut(s), false)
		}
		if x.Kind != api.VZset {
			told(t, what+", Put", v.Sorted().Put(s, 1), false)
		}
	}
	if x.Kind != api.VList && x.Kind != api.VSet {
		v.SetItems([]string{"b", "a"})
		v.SetItems(nil)
	}
	has(t, what, v, x)
}

// P15.3: of another kind each of the others does nothing, and answers zero.
func TestOtherKinds(t *testing.T) {
	for kind := api.VString; kind <= api.VZset; kind++ {
		foreign(t, "empty", value.New(kind), api.Val{Kind: kind})
	}
	for _, x := range append(small(), great()...) {
		foreign(t, "other kinds", made(t, x), x)
	}
}

// P15.3, rule 6: of nil, and of what neither New nor Of made: 0, zero, nil.
func TestNil(t *testing.T) {
	for name, v := range map[string]*value.Value{"nil": nil, "new": new(value.Value), "zero": {}} {
		for range 2 {
			foreign(t, name, v, api.Val{})
			change(v)
			has(t, name, v, api.Val{})
			if v.Clone() != nil || v.Sorted() != nil {
				t.Errorf("%s: there is something", name)
			}
		}
	}
}

// Rule 4: what is handed in is not kept; what is answered is new memory.
func TestValueMemory(t *testing.T) {
	for _, x := range append(small(), great()...) {
		keep, handed := copied(x), copied(x)
		v := made(t, handed)
		clear(handed.Pairs)
		clear(handed.List)
		clear(handed.Scores)
		has(t, "behind a change of what was handed in", v, keep)
		one, other := v.Plain(), v.Plain()
		items, others := v.Items(), v.Items()
		clear(one.Pairs[:cap(one.Pairs)])
		clear(one.List[:cap(one.List)])
		clear(one.Scores[:cap(one.Scores)])
		clear(items[:cap(items)])
		if !alike(other, keep) || !slices.Equal(others, keep.List) {
			t.Errorf("%.200v: two answers share memory", keep)
		}
		has(t, "behind a change of an answer", v, keep)
		change(v)
		if !alike(other, keep) || !slices.Equal(others, keep.List) {
			t.Errorf("%.200v: an answer is changed with the value", keep)
		}
	}
	room := []string{"b", "a", "b", "spare"}
	for kind, want := range map[int]api.Val{api.VList: list("b", "a", "b"), api.VSet: set("a", "b")} {
		l := slices.Clone(room)
		v := value.New(kind)
		v.SetItems(l[:3])
		if !slices.Equal(l, room) {
			t.Errorf("kind %d: SetItems changed %q", kind, l)
		}
		clear(l)
		has(t, "behind a change of the items", v, want)
	}
}

// plain is a value by the chapter's words: plain data.
type plain struct{ api.Val }

func (p *plain) setField(f, s string) bool {
	was := p.cutField(f)
	p.Pairs = append(p.Pairs, api.Pair{Field: f, Text: s})
	slices.SortFunc(p.Pairs, func(a, b api.Pair) int {
		if a.Field < b.Field {
			return -1
		}
		return 1
	})
	return !was
}

func (p *plain) cutField(f string) bool {
	n := len(p.Pairs)
	p.Pairs = slices.DeleteFunc(p.Pairs, func(q api.Pair) bool { return q.Field == f })
	return len(p.Pairs) < n
}

func (p *plain) setItems(l []string) {
	p.List = slices.Clone(l)
	if p.Kind == api.VSet {
		slices.Sort(p.List)
		p.List = slices.Compact(p.List)
	}
}

func (p *plain) cut(m string) bool {
	n := len(p.List)
	p.List = slices.DeleteFunc(p.List, func(s string) bool { return s == m })
	return len(p.List) < n
}

func (p *plain) add(m string) bool {
	was := slices.Contains(p.List, m)
	p.setItems(append(p.List, m))
	return !was
}

// step does one thing that values of its kind can with both.
func step(t *testing.T, rnd *rand.Rand, v *value.Value, p *plain, z *zset.Set) {
	t.Helper()
	texts := append(odd(), numbered(10)...)
	a, b := texts[rnd.Intn(len(texts))], texts[rnd.Intn(len(texts))]
	cut := rnd.Intn(3) == 0
	switch {
	case p.Kind == api.VString:
		v.SetText(a)
		p.Text = a
	case p.Kind == api.VHash && cut:
		told(t, "CutField", v.CutField(a), p.cutField(a))
	case p.Kind == api.VHash:
		told(t, "SetField", v.SetField(a, b), p.setField(a, b))
	case rnd.Intn(40) == 0 && p.Kind != api.VZset, p.Kind == api.VList:
		rnd.Shuffle(len(texts), func(i, j int) { texts[i], texts[j] = texts[j], texts[i] })
		l := append(texts[:rnd.Intn(9)], a, a)
		v.SetItems(l)
		p.setItems(l)
	case p.Kind == api.VSet && cut:
		told(t, "Cut", v.Cut(a), p.cut(a))
	case p.Kind == api.VSet:
		told(t, "Add", v.Add(a), p.add(a))
	case cut:
		told(t, "Drop", v.Sorted().Drop(a), z.Drop(a))
	default:
		told(t, "Put", v.Sorted().Put(a, len(b)), z.Put(a, len(b)))
	}
	p.Scores = z.Range(0, z.Len())
}

// P15.1 to P15.4: whatever is done, a value is as one by the chapter's words, and what may be is encoded and decoded.
func TestAsPlain(t *testing.T) {
	for seed := range int64(10) {
		rnd := rand.New(rand.NewSource(seed))
		kind := 1 + int(seed)%5
		v, p, z := value.New(kind), &plain{api.Val{Kind: kind}}, zset.New()
		for range 1500 {
			step(t, rnd, v, p, z)
			has(t, "any steps", v, p.Val)
			if rnd.Intn(20) == 0 {
				v = v.Clone()
			}
			e := api.Entry{Key: "k", Val: v.Plain(), At: rnd.Intn(9)}
			if value.Check(p.Val) == api.OK && !decodes(t, "any steps", encode(t, e)) {
				t.Errorf("%v is not decoded", e)
			}
		}
	}
}
