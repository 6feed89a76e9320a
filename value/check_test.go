package value_test

import (
	"math"
	"math/rand"
	"slices"
	"testing"

	"intaglio/api"
	"intaglio/value"
)

// checks asks what Check tells.
func checks(t *testing.T, what string, v api.Val, want api.Errno) {
	t.Helper()
	if got := value.Check(v); got != want {
		t.Errorf("%s: %d, want %d: %.200v", what, got, want, v)
	}
	if got := plainCheck(v); got != want {
		t.Errorf("%s: the test is wrong: %d, want %d", what, got, want)
	}
	got, e := value.Of(v)
	if e != want || (got == nil) != (want != api.OK) {
		t.Errorf("%s: Of tells %d, want %d", what, e, want)
	}
}

// P15.1: values that may be, small and great ones.
func TestCheckRight(t *testing.T) {
	for _, v := range append(small(), great()...) {
		checks(t, "right", v, api.OK)
	}
}

// P15.1: there are five kinds, whatever stands there.
func TestCheckKind(t *testing.T) {
	for _, kind := range []int{0, 6, -1, 7, 256, 257, 258, math.MinInt, math.MaxInt} {
		checks(t, "empty", api.Val{Kind: kind}, api.EARG)
		for _, v := range slices.Concat(small(), great(), wrong()) {
			v.Kind = kind
			checks(t, "no kind", v, api.EARG)
		}
	}
}

// wrong are values of too many elements, too long ones, and ones in a wrong order.
func wrong() []api.Val {
	return []api.Val{list(numbered(201)...), set("b", "a"), hash("b", "", "a", ""), list(long(513)), text(long(513))}
}

// P15.1: what another kind has must be zero; nil and empty lists are one.
func TestCheckForeign(t *testing.T) {
	for _, v := range slices.Concat(small(), great(), wrong()) {
		own := value.Check(v)
		for _, alien := range []api.Val{text("a"), hash("a", "b"), list("a"), sorted("a"), text(long(513)), list(numbered(201)...), sorted("b", "b")} {
			w, has := copied(v), false
			if alien.Text != "" {
				has, w.Text = has || v.Kind == api.VString, alien.Text
			}
			if len(alien.Pairs) > 0 {
				has, w.Pairs = has || v.Kind == api.VHash, alien.Pairs
			}
			if len(alien.List) > 0 {
				has, w.List = has || v.Kind == api.VList || v.Kind == api.VSet, alien.List
			}
			if len(alien.Scores) > 0 {
				has, w.Scores = has || v.Kind == api.VZset, alien.Scores
			}
			if !has {
				checks(t, "something foreign", w, api.EARG)
			}
		}
		w := copied(v)
		if w.Pairs == nil {
			w.Pairs = []api.Pair{}
		}
		if w.List == nil {
			w.List = make([]string, 0, 4)
		}
		if w.Scores == nil {
			w.Scores = []api.Score{}
		}
		checks(t, "empty lists", w, own)
	}
}

// P15.1: what is not a string has an element; it may be one without bytes.
func TestCheckNone(t *testing.T) {
	checks(t, "a text without bytes", text(""), api.OK)
	for kind := api.VHash; kind <= api.VZset; kind++ {
		checks(t, "none", api.Val{Kind: kind}, api.EARG)
		checks(t, "none", api.Val{Kind: kind, Pairs: []api.Pair{}, List: []string{}, Scores: []api.Score{}}, api.EARG)
	}
}

// P15.1: 200 elements, and not one more.
func TestCheckFull(t *testing.T) {
	for n, want := range map[int]api.Errno{1: api.OK, 199: api.OK, 200: api.OK, 201: api.EFULL, 202: api.EFULL, 1000: api.EFULL} {
		l := numbered(n)
		checks(t, "hash", hash(twice(l)...), want)
		checks(t, "list", list(l...), want)
		checks(t, "the same", list(slices.Repeat([]string{"a"}, n)...), want)
		checks(t, "set", set(l...), want)
		checks(t, "sorted set", sorted(l...), want)
	}
}

// P15.1: 512 bytes, and not one more, of each text, wherever it stands.
func TestCheckLong(t *testing.T) {
	for n, want := range map[int]api.Errno{511: api.OK, 512: api.OK, 513: api.ELONG, 514: api.ELONG, 1 << 17: api.ELONG} {
		checks(t, "text", text(long(n)), want)
		checks(t, "field", hash(long(n), ""), want)
		checks(t, "first field", hash(long(n), "", "y", ""), want)
		checks(t, "last field", hash("a", "", long(n), ""), want)
		checks(t, "text by a field", hash("", long(n)), want)
		checks(t, "first text by a field", hash("a", long(n), "b", ""), want)
		checks(t, "last text by a field", hash("a", "", "b", long(n)), want)
		for kind := api.VList; kind <= api.VSet; kind++ {
			checks(t, "element", api.Val{Kind: kind, List: []string{long(n)}}, want)
			checks(t, "first element", api.Val{Kind: kind, List: []string{long(n), "y"}}, want)
			checks(t, "last element", api.Val{Kind: kind, List: []string{"a", long(n)}}, want)
		}
		checks(t, "member", scored(long(n), 3), want)
		checks(t, "first member", sorted(long(n), "a", "b"), want)
		checks(t, "last member", sorted("b", "a", long(n)), want)
	}
	checks(t, "two that are too long together alone", hash(long(300), long(300)), api.OK)
}

// P15.1: fields and a set's elements rise, each is once; a list's need not.
func TestCheckRises(t *testing.T) {
	for _, c := range [][]string{
		{"b", "a"}, {"a", "a"}, {"", ""}, {"a", ""}, {"ab", "a"}, {"\x00", ""}, {"\x80", "\x7f"}, {"\xff", "a"}, {"é", "z"},
		{"a", "c", "b"}, {"b", "a", "c"}, {"a", "b", "b"}, {"a", "a", "b"}, {"a", "b", "c", "d", "c"}, {"a", "b", "a"}, {"c", "b", "a"},
	} {
		checks(t, "set", set(c...), api.EORDER)
		checks(t, "hash", hash(twice(c)...), api.EORDER)
		checks(t, "list", list(c...), api.OK)
		slices.Sort(c)
		c = slices.Compact(c)
		checks(t, "set, rising", set(c...), api.OK)
		checks(t, "hash, rising", hash(twice(c)...), api.OK)
	}
	checks(t, "texts fall", hash("a", "z", "b", "y", "c", "y"), api.OK)
}

// P15.1: of scores each stands ahead of the next one, and no member stands twice.
func TestCheckScores(t *testing.T) {
	for _, c := range []struct {
		scores []api.Score
		want   api.Errno
	}{
		{[]api.Score{{Member: "b", Score: 1}, {Member: "a", Score: 2}}, api.OK},
		{[]api.Score{{Member: "b", Score: 2}, {Member: "a", Score: 1}}, api.EORDER},
		{[]api.Score{{Member: "a", Score: 2}, {Member: "b", Score: 1}}, api.EORDER},
		{[]api.Score{{Member: "a", Score: 1}, {Member: "b", Score: 1}}, api.OK},
		{[]api.Score{{Member: "b", Score: 1}, {Member: "a", Score: 1}}, api.EORDER},
		{[]api.Score{{Member: "a", Score: 1}, {Member: "a", Score: 1}}, api.EORDER},
		{[]api.Score{{Member: "a", Score: 1}, {Member: "a", Score: 2}}, api.EORDER},
		{[]api.Score{{Member: "a", Score: 2}, {Member: "a", Score: 1}}, api.EORDER},
		{[]api.Score{{Member: "", Score: 1}, {Member: "", Score: 2}}, api.EORDER},
		{[]api.Score{{Member: "a", Score: 1}, {Member: "b", Score: 1}, {Member: "a", Score: 2}}, api.EORDER},
		{[]api.Score{{Member: "a", Score: 1}, {Member: "b", Score: 2}, {Member: "c", Score: 3}, {Member: "b", Score: 4}}, api.EORDER},
		{[]api.Score{{Member: "a", Score: 1}, {Member: "b", Score: 3}, {Member: "c", Score: 2}}, api.EORDER},
		{[]api.Score{{Member: "", Score: 0}, {Member: "\x00", Score: 0}, {Member: "\xff", Score: 0}}, api.OK},
		{[]api.Score{{Member: "\xff", Score: 0}, {Member: "a", Score: 0}}, api.EORDER},
		{[]api.Score{{Member: "a", Score: math.MinInt}, {Member: "b", Score: math.MaxInt}}, api.OK},
		{[]api.Score{{Member: "a", Score: math.MaxInt}, {Member: "b", Score: math.MinInt}}, api.EORDER},
		{[]api.Score{{Member: "z", Score: -2}, {Member: "y", Score: -1}, {Member: "x", Score: 0}}, api.OK},
	} {
		checks(t, "scores", api.Val{Kind: api.VZset, Scores: c.scores}, c.want)
	}
}

// P15.1: the errors come in their order: what is foreign or not there, too many, too long, not in order.
func TestCheckOrder(t *testing.T) {
	falling := append(numbered(201), long(513), "", "")
	for kind := api.VHash; kind <= api.VZset; kind++ {
		v := map[int]api.Val{api.VHash: hash(twice(falling)...), api.VList: list(falling...), api.VSet: set(falling...), api.VZset: sorted(falling...)}[kind]
		checks(t, "full, long and falling", v, api.EFULL)
		v.Text = "a"
		checks(t, "and foreign", v, api.EARG)
	}
	checks(t, "long and falling", hash("b", long(513), "a", ""), api.ELONG)
	checks(t, "long and falling", set("b", "a", long(513)), api.ELONG)
	checks(t, "long and falling", set(long(513), "a"), api.ELONG)
	checks(t, "long and twice", sorted("a", "a", long(513)), api.ELONG)
	foreign := text(long(513))
	foreign.List = []string{"a"}
	checks(t, "long and foreign", foreign, api.EARG)
}

// anyVal is any plain data: often such as may be, but for a thing or two.
func anyVal(rnd *rand.Rand) api.Val {
	right := small()
	v := copied(right[rnd.Intn(len(right))])
	texts := append(odd(), long(512), long(513))
	for range rnd.Intn(3) {
		s := texts[rnd.Intn(len(texts))]
		switch rnd.Intn(8) {
		case 0:
			v.Kind = rnd.Intn(7)
		case 1:
			v.Text = s
		case 2:
			v.Pairs = append(v.Pairs, api.Pair{Field: s, Text: texts[rnd.Intn(len(texts))]})
		case 3:
			v.List = append(v.List, s)
		case 4:
			v.Scores = append(v.Scores, api.Score{Member: s, Score: edges()[rnd.Intn(len(edges()))]})
		case 5:
			rnd.Shuffle(len(v.List), func(i, j int) { v.List[i], v.List[j] = v.List[j], v.List[i] })
		case 6:
			slices.Reverse(v.Pairs)
		case 7:
			v.List = append(v.List, numbered(199+rnd.Intn(3))...)
		}
	}
	return v
}

// P15.1: Check of anything is as the chapter says.
func TestCheckAny(t *testing.T) {
	rnd := rand.New(rand.NewSource(15))
	told := map[api.Errno]int{}
	for range 20000 {
		v := anyVal(rnd)
		want := plainCheck(v)
		told[want]++
		if got := value.Check(v); got != want {
			t.Fatalf("%d, want %d: %.300v", got, want, v)
		}
	}
	for _, e := range []api.Errno{api.OK, api.EARG, api.EFULL, api.ELONG, api.EORDER} {
		if told[e] < 50 {
			t.Errorf("%d was told %d times", e, told[e])
		}
	}
}

// P15.1: an entry's key has 1 to 64 bytes, its time is 0 to 2^40; then its value is checked.
func TestEntry(t *testing.T) {
	for n, want := range map[int]api.Errno{0: api.EARG, 1: api.OK, 2: api.OK, 63: api.OK, 64: api.OK, 65: api.EARG, 66: api.EARG, 1000: api.EARG} {
		if got := value.Entry(api.Entry{Key: long(n), Val: text("a")}); got != want {
			t.Errorf("key of %d bytes: %d, want %d", n, got, want)
		}
	}
	for at, want := range map[int]api.Errno{math.MinInt: api.EARG, -1: api.EARG, 0: api.OK, 1: api.OK, most - 1: api.OK, most: api.OK, most + 1: api.EARG, math.MaxInt: api.EARG} {
		if got := value.Entry(api.Entry{Key: "\x00", Val: text("a"), At: at}); got != want {
			t.Errorf("time %d: %d, want %d", at, got, want)
		}
	}
	for _, v := range slices.Concat(small(), great(), wrong(), []api.Val{{}, {Kind: 6}, list()}) {
		for _, e := range []api.Entry{{Key: "k", Val: v}, {Key: "", Val: v}, {Key: long(65), Val: v}, {Key: "k", Val: v, At: -1}, {Key: "k", Val: v, At: most}, {Key: long(64), Val: v, At: most + 1}} {
			if got, want := value.Entry(e), plainEntry(e); got != want {
				t.Errorf("%.200v: %d, want %d", e, got, want)
			}
		}
	}
}

// P15.1: Size is 16, a string's bytes, or of each element 8 and its bytes, and 8 more of a score.
func TestSize(t *testing.T) {
	for _, c := range []struct {
		v    api.Val
		want int
	}{
		{hash("a", "bc"), 27}, {text(""), 16}, {text("a"), 17}, {text("four"), 20}, {text(long(512)), 528}, {text(long(513)), 529},
		{list(""), 24}, {list("a"), 25}, {list("a", "a"), 34}, {list("", "", ""), 40}, {set("ab", "c"), 35}, {set("a", "b"), 34},
		{hash("", ""), 24}, {hash("a", ""), 25}, {hash("", "a"), 25}, {hash("a", "bc", "def", "ghij"), 16 + 11 + 15},
		{scored("", 0), 32}, {scored("abc", math.MinInt), 35}, {scored("abc", math.MaxInt), 35}, {sorted("a", "bc"), 16 + 17 + 18},
		{list(numbered(200)...), 16 + 200*13}, {sorted(numbered(200)...), 16 + 200*21}, {hash(twice(numbered(200))...), 16 + 200*18},
		{list(numbered(201)...), 16 + 201*13}, {set("b", "b"), 34}, {sorted("a", "a"), 16 + 34},
		{api.Val{}, 16}, {api.Val{Kind: api.VHash}, 16}, {api.Val{Kind: api.VList}, 16}, {api.Val{Kind: api.VSet}, 16}, {api.Val{Kind: api.VZset}, 16}, {api.Val{Kind: 6}, 16},
	} {
		if got := value.Size(c.v); got != c.want {
			t.Errorf("%.200v: %d, want %d", c.v, got, c.want)
		}
	}
}

// P15.1: of what a kind does not have Size tells nothing.
func TestSizeForeign(t *testing.T) {
	all := api.Val{Text: "1", Pairs: hash("22", "4").Pairs, List: []string{"55555555"}, Scores: sorted("6666666666666666").Scores}
	for kind, want := range map[int]int{-1: 16, 0: 16, 1: 17, 2: 27, 3: 32, 4: 32, 5: 48, 6: 16} {
		all.Kind = kind
		if got := value.Size(all); got != want {
			t.Errorf("kind %d: %d, want %d", kind, got, want)
		}
	}
}

// P15.1: Same tells whether all fields are the same; nil and empty lists are one.
func TestSame(t *testing.T) {
	all := append(slices.Concat(small(), great(), wrong()), api.Val{}, api.Val{Kind: 6}, api.Val{Text: "a"}, set("b"), hash("a", "b"), hash("a", "c"), hash("b", "bc"), sorted("c", "a"), scored("a", 1))
	for kind := range 7 {
		all = append(all, api.Val{Kind: kind, Text: "b", Pairs: hash("a", "b").Pairs, List: []string{"a"}, Scores: sorted("a").Scores}, api.Val{Kind: kind})
	}
	for _, a := range all {
		for _, b := range all {
			if got := value.Same(a, copied(b)); got != alike(a, b) {
				t.Errorf("%.200v and %.200v: %v", a, b, got)
			}
		}
	}
	for _, v := range []api.Val{text("a"), {}, {Kind: api.VZset}} {
		if !value.Same(v, api.Val{Kind: v.Kind, Text: v.Text, Pairs: []api.Pair{}, List: make([]string, 0, 3), Scores: []api.Score{}}) {
			t.Errorf("%v: nil and empty lists are not one", v)
		}
	}
}
