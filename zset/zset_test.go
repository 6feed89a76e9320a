package zset_test

import (
	"math"
	"math/rand"
	"slices"
	"testing"

	"intaglio/api"
	"intaglio/zset"
)

// both is a set, and the plain one that it is to be like.
type both struct {
	z *zset.Set
	p plain
}

func newBoth() *both { return &both{z: zset.New()} }

func (b *both) put(t *testing.T, member string, score int) {
	t.Helper()
	if got, want := b.z.Put(member, score), b.p.put(member, score); got != want {
		t.Fatalf("put of %q, %d: %v, want %v", member, score, got, want)
	}
}

func (b *both) drop(t *testing.T, member string) {
	t.Helper()
	if got, want := b.z.Drop(member), b.p.drop(member); got != want {
		t.Fatalf("drop of %q: %v, want %v", member, got, want)
	}
}

// oddSet is a set of odd members, some of which have the same scores.
func oddSet(t *testing.T) *both {
	t.Helper()
	b := newBoth()
	for i, m := range odd() {
		b.put(t, m, edges()[(i/2+3)%len(edges())])
	}
	return b
}

// P14.1: a score stands ahead of a greater one; of one score, a member of one whose bytes are greater.
func TestLess(t *testing.T) {
	var rising []api.Score
	members := odd()
	slices.SortFunc(members, func(a, b string) int { return plainOrder(api.Score{Member: a}, api.Score{Member: b}) })
	for _, score := range edges() {
		for _, m := range members {
			rising = append(rising, api.Score{Member: m, Score: score})
		}
	}
	for i, a := range rising {
		for j, b := range rising {
			if got := zset.Less(a, b); got != (i < j) {
				t.Errorf("%v ahead of %v: %v", a, b, got)
			}
		}
	}
}

// P14.1: members stand by their scores, and may be given another one.
func TestExample(t *testing.T) {
	b := newBoth()
	b.put(t, "a", 5)
	b.put(t, "b", 3)
	stands(t, "before", b.z, plain{{Member: "b", Score: 3}, {Member: "a", Score: 5}})
	b.put(t, "a", 1)
	stands(t, "the example", b.z, plain{{Member: "a", Score: 1}, {Member: "b", Score: 3}})
}

// P14.1, P14.2: a set without members, and one with one.
func TestNoneAndOne(t *testing.T) {
	stands(t, "new", zset.New(), nil)
	for _, m := range odd() {
		for _, score := range edges() {
			b := newBoth()
			b.drop(t, m)
			stands(t, "none was dropped", b.z, nil)
			b.put(t, m, score)
			stands(t, "one", b.z, plain{{Member: m, Score: score}})
			b.drop(t, m)
			stands(t, "none more", b.z, nil)
			b.drop(t, m)
			b.put(t, m, 7)
			stands(t, "one again", b.z, plain{{Member: m, Score: 7}})
		}
	}
}

// P14.1, P14.3: many members, whatever order they come in, with scores that are unlike, or the same, or of both kinds.
func TestMany(t *testing.T) {
	const n = 1500
	scores := map[string]func(i int) int{
		"unlike": func(i int) int { return i - n/2 },
		"same":   func(i int) int { return -3 },
		"some":   func(i int) int { return i % 7 },
		"edges":  func(i int) int { return edges()[i%len(edges())] },
	}
	rnd := rand.New(rand.NewSource(14))
	orders := map[string][]int{"rising": nil, "falling": nil, "any": rnd.Perm(n)}
	for i := range n {
		orders["rising"] = append(orders["rising"], i)
		orders["falling"] = append(orders["falling"], n-1-i)
	}
	for kind, score := range scores {
		for order, l := range orders {
			b := newBoth()
			for _, i := range l {
				b.put(t, number(i), score(i))
			}
			stands(t, kind+", "+order, b.z, b.p)
			for i := range n {
				if i%3 > 0 {
					b.drop(t, number(l[i]))
				}
			}
			stands(t, kind+", "+order+", some dropped", b.z, b.p)
			for i := range n {
				b.drop(t, number(i))
			}
			stands(t, kind+", "+order+", all dropped", b.z, nil)
		}
	}
}

// P14.1: a member that is put twice is there once, with the second score; false tells that it was there.
func TestPutTwice(t *testing.T) {
	for _, first := range edges() {
		for _, second := range edges() {
			b := oddSet(t)
			n := b.z.Len()
			for _, m := range []string{"", "a", "\xff"} {
				b.drop(t, m)
				b.put(t, m, first)
				stands(t, "put once", b.z, b.p)
				b.put(t, m, second)
				b.put(t, m, second)
				stands(t, "put twice", b.z, b.p)
			}
			if b.z.Len() != n {
				t.Errorf("%d members, want %d", b.z.Len(), n)
			}
		}
	}
}

// P14.1: what is dropped is there no more; of what is not there nothing is dropped.
func TestDrop(t *testing.T) {
	for _, m := range odd() {
		b := oddSet(t)
		b.drop(t, "no member")
		b.drop(t, m+"no member")
		stands(t, "nothing dropped", b.z, b.p)
		b.drop(t, m)
		lacks(t, "dropped", b.z, m)
		b.drop(t, m)
		stands(t, "dropped", b.z, b.p)
	}
}

// P14.2: places from above to, below 0, beyond the last one.
func TestRange(t *testing.T) {
	for n := range 12 {
		b := newBoth()
		for i := range n {
			b.put(t, number(i), i/2)
		}
		places := edges()
		for i := -3; i < n+4; i++ {
			places = append(places, i)
		}
		for _, from := range places {
			for _, to := range places {
				same(t, "range", b.z.Range(from, to), b.p.places(from, to))
			}
			if from < 0 || from >= n {
				noPlace(t, "range", b.z, from)
			}
		}
	}
}

// P14.2: Range tells what At tells of each place from the first one up to one below the other.
func TestRangeAndAt(t *testing.T) {
	b := oddSet(t)
	for from := -2; from < b.z.Len()+2; from++ {
		for to := -2; to < b.z.Len()+3; to++ {
			var want []api.Score
			for i := from; i <= to-1; i++ {
				if s, ok := b.z.At(i); ok {
					want = append(want, s)
				}
			}
			same(t, "range", b.z.Range(from, to), want)
		}
	}
}

// P14.2: scores from a low one to a high one, both among them; none, if low is above high.
func TestBetween(t *testing.T) {
	b := oddSet(t)
	for i := range 60 {
		b.put(t, number(i), i/3-10)
	}
	bounds := edges()
	for i := -12; i < 13; i++ {
		bounds = append(bounds, i)
	}
	for _, low := range bounds {
		for _, high := range bounds {
			got := b.z.Between(low, high)
			same(t, "between", got, b.p.between(low, high))
			if low > high && len(got) > 0 {
				t.Errorf("from %d to %d: %v", low, high, got)
			}
		}
	}
}

// P14.3: what At tells of Rank is the member; each stands ahead of the next one.
func TestPlaces(t *testing.T) {
	b := oddSet(t)
	for i := range 300 {
		b.put(t, number(i), i%11)
	}
	var last api.Score
	for i, s := range b.z.Range(0, b.z.Len()) {
		rank, _ := b.z.Rank(s.Member)
		if at, ok := b.z.At(rank); !ok || at != s || rank != i {
			t.Errorf("%v has the rank %d, where %v stands", s, rank, at)
		}
		if i > 0 && !zset.Less(last, s) {
			t.Errorf("%v does not stand ahead of %v", last, s)
		}
		last = s
	}
}

// P14.2: a clone is like its origin, and each goes its own way.
func TestClone(t *testing.T) {
	for _, b := range []*both{newBoth(), oddSet(t)} {
		c := &both{b.z.Clone(), slices.Clone(b.p)}
		stands(t, "the clone", c.z, b.p)
		for i := range 40 {
			c.put(t, number(i), i)
			c.drop(t, odd()[i%len(odd())])
		}
		stands(t, "a clone that is changed", c.z, c.p)
		stands(t, "whose origin is not", b.z, b.p)
		d := &both{b.z.Clone(), slices.Clone(b.p)}
		for i := range 40 {
			b.put(t, number(i), -i)
			b.put(t, odd()[i%len(odd())], i)
		}
		stands(t, "an origin that is changed", b.z, b.p)
		stands(t, "whose clone is not", d.z, d.p)
		stands(t, "nor the other one", c.z, c.p)
		stands(t, "a clone of a clone", d.z.Clone().Clone(), d.p)
	}
}

// P14.2, rule 6: a set that New did not make is empty, and stays so; its Clone is nil.
func TestSetThatNewDidNotMake(t *testing.T) {
	for name, z := range map[string]*zset.Set{"nil": nil, "new": new(zset.Set), "zero": {}} {
		for range 2 {
			stands(t, name, z, nil)
			if z.Clone() != nil {
				t.Errorf("%s has a clone", name)
			}
			for _, m := range odd() {
				if z.Put(m, 1) || z.Put(m, 0) || z.Drop(m) {
					t.Errorf("%s: something is done with %q", name, m)
				}
			}
			for _, from := range edges() {
				for _, to := range edges() {
					same(t, name, z.Range(from, to), nil)
					same(t, name, z.Between(from, to), nil)
				}
				noPlace(t, name, z, from)
			}
		}
	}
}

// Rule 4: what is answered is new memory.
func TestAnswersAreNew(t *testing.T) {
	b := oddSet(t)
	all := func(z *zset.Set) [][]api.Score {
		return [][]api.Score{z.Range(0, z.Len()), z.Range(0, z.Len()), z.Between(math.MinInt, math.MaxInt), z.Between(math.MinInt, math.MaxInt)}
	}
	answers := all(b.z)
	for i, l := range answers {
		clear(l[:cap(l)])
		for _, other := range answers[i+1:] {
			same(t, "another answer", other, b.p)
		}
		stands(t, "behind a change of an answer", b.z, b.p)
	}
	for _, l := range all(b.z) {
		b.put(t, "behind", 5)
		b.drop(t, "behind")
		same(t, "behind a change of the set", l, b.p)
	}
}

// Rule 5: what a set tells hangs on its members and their scores, not on how they came, nor on other sets.
func TestSameMembers(t *testing.T) {
	rnd := rand.New(rand.NewSource(5))
	want := oddSet(t)
	for range 40 {
		b, other := newBoth(), newBoth()
		for _, i := range rnd.Perm(len(want.p)) {
			s := want.p[i]
			if rnd.Intn(2) == 0 {
				b.put(t, s.Member, rnd.Int())
			}
			b.put(t, number(i), rnd.Intn(20))
			b.put(t, s.Member, s.Score)
			b.drop(t, number(i))
			other.put(t, s.Member, rnd.Int())
		}
		stands(t, "other ways", b.z, want.p)
		stands(t, "another set", other.z, other.p)
	}
}

// anyStep does one thing with both.
func anyStep(t *testing.T, rnd *rand.Rand, b *both, members []string, scores []int) {
	t.Helper()
	m := members[rnd.Intn(len(members))]
	x, y := scores[rnd.Intn(len(scores))], scores[rnd.Intn(len(scores))]
	from, to := rnd.Intn(len(b.p)+4)-2, rnd.Intn(len(b.p)+4)-2
	switch rnd.Intn(10) {
	case 0, 1, 2, 3, 4:
		b.put(t, m, x)
	case 5, 6:
		b.drop(t, m)
	case 7:
		same(t, "range", b.z.Range(from, to), b.p.places(from, to))
	case 8:
		same(t, "between", b.z.Between(x, y), b.p.between(x, y))
	case 9:
		b.z = b.z.Clone()
	}
}

// P14.1 to P14.3: whatever is done, a set is as one by the chapter's words.
func TestAsPlain(t *testing.T) {
	many := odd()
	for i := range 400 {
		many = append(many, number(i))
	}
	few := []int{-1, 0, 1}
	for seed := range int64(12) {
		rnd := rand.New(rand.NewSource(seed))
		members, scores := odd(), few
		if seed%2 > 0 {
			members = many
		}
		if seed%3 > 0 {
			scores = edges()
		}
		b := newBoth()
		for i := range 2500 {
			anyStep(t, rnd, b, members, scores)
			if i%16 == 0 {
				stands(t, "any steps", b.z, b.p)
			}
		}
		stands(t, "any steps", b.z, b.p)
	}
}
