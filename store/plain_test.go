package store_test

import (
	"maps"
	"math/big"
	"slices"
	"sort"
	"strings"

	"intaglio/api"
	"intaglio/verb"
)

// Errors, as the chapter writes them.
const (
	eHere   = "ERR not here"
	eInt    = "ERR value is not an integer or out of range"
	eSyntax = "ERR syntax error"
	eTime   = "ERR invalid expire time"
	eKind   = "WRONGTYPE the key holds another kind of value"
	eMany   = "ERR too many elements"
	eLong   = "ERR too long"
	eKey    = "ERR no such key"
	ePlace  = "ERR index out of range"
	eOver   = "ERR increment or decrement would overflow"
	eRoom   = "OOM no memory left"
)

// plain is a store by the chapter's words. Each command works on a copy, that is thrown away behind an error.
type plain struct {
	most     int
	keys     map[string]item
	versions map[string]int
}

// item is what stands by a key. It is never changed, but made anew.
type item struct {
	kind   int
	text   string
	hash   map[string]string
	list   []string
	set    map[string]bool
	scores map[string]int
	at     int
}

// sorted is keys of a map, rising.
func sorted[V any](m map[string]V) []string {
	out := slices.Collect(maps.Keys(m))
	sort.Strings(out)
	return out
}

// order is a sorted set's members, by scores and then by their bytes.
func order(scores map[string]int) []string {
	out := sorted(scores)
	sort.SliceStable(out, func(i, j int) bool { return scores[out[i]] < scores[out[j]] })
	return out
}

// val is an item as plain data.
func (x item) val() api.Val {
	v := api.Val{Kind: x.kind, Text: x.text, List: slices.Clone(x.list)}
	for _, f := range sorted(x.hash) {
		v.Pairs = append(v.Pairs, api.Pair{Field: f, Text: x.hash[f]})
	}
	if x.kind == api.VSet {
		v.List = sorted(x.set)
	}
	for _, m := range order(x.scores) {
		v.Scores = append(v.Scores, api.Score{Member: m, Score: x.scores[m]})
	}
	return v
}

// itemOf is plain data as an item.
func itemOf(e api.Entry) item {
	x := item{kind: e.Val.Kind, text: e.Val.Text, hash: map[string]string{}, set: map[string]bool{}, scores: map[string]int{}, at: e.At}
	for _, p := range e.Val.Pairs {
		x.hash[p.Field] = p.Text
	}
	if x.kind == api.VList {
		x.list = slices.Clone(e.Val.List)
	} else {
		for _, m := range e.Val.List {
			x.set[m] = true
		}
	}
	for _, s := range e.Val.Scores {
		x.scores[s.Member] = s.Score
	}
	return x
}

func newPlain(most int, l ...api.Entry) *plain {
	p := &plain{most, map[string]item{}, map[string]int{}}
	for _, e := range l {
		p.keys[e.Key] = itemOf(e)
	}
	return p
}

func (p *plain) dump() []api.Entry {
	var out []api.Entry
	for _, key := range sorted(p.keys) {
		out = append(out, api.Entry{Key: key, Val: p.keys[key].val(), At: p.keys[key].at})
	}
	return out
}

// used is how many bytes are used, by the words of chapters 15 and 16.
func used(l []api.Entry) int {
	n := 0
	for _, e := range l {
		n += 32 + len(e.Key) + 16 + len(e.Val.Text)
		for _, x := range e.Val.Pairs {
			n += 8 + len(x.Field) + len(x.Text)
		}
		for _, x := range e.Val.List {
			n += 8 + len(x)
		}
		for _, x := range e.Val.Scores {
			n += 8 + len(x.Member) + 8
		}
	}
	return n
}

func (p *plain) sweep(now int) int {
	n := 0
	for _, key := range sorted(p.keys) {
		if at := p.keys[key].at; at >= 1 && at <= now {
			delete(p.keys, key)
			p.versions[key]++
			n++
		}
	}
	return n
}

func (p *plain) do(now, draw int, args []string) api.Reply {
	if now < 0 {
		now = 0
	}
	if now > 1<<40 {
		now = 1 << 40
	}
	p.sweep(now)
	if _, wrong := verb.Check(args); wrong != "" {
		return bad(wrong)
	}
	w := &work{keys: maps.Clone(p.keys), now: now, draw: draw, args: args}
	before, versions := p.dump(), maps.Clone(p.versions)
	out := w.run(strings.ToUpper(args[0]))
	if out.Kind == api.RError {
		return out
	}
	p.keys = w.keys
	after := p.dump()
	if n := used(after); n > p.most && n > used(before) {
		p.keys = newPlain(0, before...).keys
		return bad(eRoom)
	}
	for _, key := range touched(before, after) {
		versions[key]++
	}
	p.versions = versions
	return out
}

// touched is the keys of entries that are in one of the two alone, or unlike.
func touched(a, b []api.Entry) []string {
	all := map[string][2]api.Entry{}
	for i, l := range [][]api.Entry{a, b} {
		for _, e := range l {
			both := all[e.Key]
			both[i] = e
			all[e.Key] = both
		}
	}
	maps.DeleteFunc(all, func(_ string, both [2]api.Entry) bool { return sameEntry(both[0], both[1]) })
	return sorted(all)
}

// sameEntry tells whether two entries are the same.
func sameEntry(a, b api.Entry) bool {
	return a.Key == b.Key && a.At == b.At && a.Val.Kind == b.Val.Kind && a.Val.Text == b.Val.Text && slices.Equal(a.Val.Pairs, b.Val.Pairs) &&
		slices.Equal(a.Val.List, b.Val.List) && slices.Equal(a.Val.Scores, b.Val.Scores)
}

func bad(s string) api.Reply { return api.Reply{Kind: api.RError, Text: s} }

func simple(s string) api.Reply { return api.Reply{Kind: api.RSimple, Text: s} }

func num(n int) api.Reply { return api.Reply{Kind: api.RInt, Int: n} }

func one(is bool) api.Reply {
	if is {
		return num(1)
	}
	return num(0)
}

func bulk(s string) api.Reply { return api.Reply{Kind: api.RBulk, Text: s} }

func null() api.Reply { return api.Reply{Kind: api.RNil} }

func bulks(l []string) api.Reply {
	out := api.Reply{Kind: api.RArray}
	for _, s := range l {
		out.List = append(out.List, bulk(s))
	}
	return out
}

// plainInt is a word's number, by big numbers.
func plainInt(s string) (int, bool) {
	n, ok := new(big.Int).SetString(s, 10)
	if !ok || n.String() != s || !n.IsInt64() {
		return 0, false
	}
	return int(n.Int64()), true
}

// plainSum is a + sign * b, if it has 64 bits.
func plainSum(a, b, sign int) (int, bool) {
	n := new(big.Int).Mul(big.NewInt(int64(b)), big.NewInt(int64(sign)))
	n.Add(n, big.NewInt(int64(a)))
	return int(n.Int64()), n.IsInt64()
}

// plainPlaces is those of n places that lie from a to b.
func plainPlaces(a, b, n int) []int {
	if a < 0 {
		a += n
		if a < 0 {
			a = 0
		}
	}
	if b < 0 {
		b += n
	}
	var out []int
	for i := range n {
		if i >= a && i <= b {
			out = append(out, i)
		}
	}
	return out
}
