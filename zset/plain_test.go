package zset_test

import (
	"bytes"
	"cmp"
	"math"
	"slices"
	"strconv"
	"strings"
	"testing"

	"intaglio/api"
	"intaglio/zset"
)

// plain is a set by the chapter's words: members with their scores, in order.
type plain []api.Score

// plainOrder is the order of members: by scores, then byte by byte.
func plainOrder(a, b api.Score) int {
	return cmp.Or(cmp.Compare(a.Score, b.Score), bytes.Compare([]byte(a.Member), []byte(b.Member)))
}

func (p plain) place(member string) int {
	return slices.IndexFunc(p, func(s api.Score) bool { return s.Member == member })
}

func (p *plain) drop(member string) bool {
	i := p.place(member)
	if i >= 0 {
		*p = slices.Delete(*p, i, i+1)
	}
	return i >= 0
}

func (p *plain) put(member string, score int) bool {
	there := p.drop(member)
	s := api.Score{Member: member, Score: score}
	i, _ := slices.BinarySearchFunc(*p, s, plainOrder)
	*p = slices.Insert(*p, i, s)
	return !there
}

// chosen is the members of places that are told.
func (p plain) chosen(in func(place int, s api.Score) bool) []api.Score {
	var out []api.Score
	for i, s := range p {
		if in(i, s) {
			out = append(out, s)
		}
	}
	return out
}

func (p plain) between(low, high int) []api.Score {
	return p.chosen(func(_ int, s api.Score) bool { return low <= s.Score && s.Score <= high })
}

func (p plain) places(from, to int) []api.Score {
	return p.chosen(func(i int, _ api.Score) bool { return from <= i && i < to })
}

// odd are members that may be taken for one another, or for none.
func odd() []string {
	return []string{"", "\x00", "\x00\x00", "a", "a\x00", "aa", "ab", "b", "A", "\x7f", "\x80", "\xff", "\xff\xff", "é", "0", "-1", strings.Repeat("a", 600), strings.Repeat("a", 601)}
}

// edges are scores and places: small ones, and the least and the greatest.
func edges() []int {
	return []int{math.MinInt, math.MinInt + 1, -1 << 32, -2, -1, 0, 1, 2, 1 << 32, math.MaxInt - 1, math.MaxInt}
}

// number is a member of a number.
func number(i int) string { return "m" + strconv.Itoa(i) }

// same asks that a list is as wanted.
func same(t *testing.T, what string, got, want []api.Score) {
	t.Helper()
	if !slices.Equal(got, want) {
		t.Fatalf("%s: %d members, want %d: %v, want %v", what, len(got), len(want), some(got), some(want))
	}
}

// some is the first ones of a list.
func some(l []api.Score) []api.Score { return l[:min(len(l), 8)] }

// lacks asks that a member is not there.
func lacks(t *testing.T, what string, z *zset.Set, member string) {
	t.Helper()
	score, ok := z.Score(member)
	rank, found := z.Rank(member)
	if score != 0 || ok || rank != 0 || found {
		t.Fatalf("%s: %q has score %d %v, rank %d %v", what, member, score, ok, rank, found)
	}
}

// noPlace asks that no member has a place.
func noPlace(t *testing.T, what string, z *zset.Set, i int) {
	t.Helper()
	if s, ok := z.At(i); ok || s != (api.Score{}) {
		t.Fatalf("%s: at %d of %d: %v %v", what, i, z.Len(), s, ok)
	}
}

// stands asks all that a set can be asked.
func stands(t *testing.T, what string, z *zset.Set, p plain) {
	t.Helper()
	if z.Len() != len(p) {
		t.Fatalf("%s: %d members, want %d", what, z.Len(), len(p))
	}
	for i, s := range p {
		score, ok := z.Score(s.Member)
		rank, found := z.Rank(s.Member)
		at, there := z.At(i)
		if score != s.Score || !ok || rank != i || !found || at != s || !there {
			t.Fatalf("%s: %d of %d: %v has score %d %v, rank %d %v, and there is %v %v", what, i, len(p), s, score, ok, rank, found, at, there)
		}
	}
	for _, i := range []int{-1, -2, math.MinInt, len(p), len(p) + 1, math.MaxInt} {
		noPlace(t, what, z, i)
	}
	for _, m := range append(odd(), "no member") {
		if p.place(m) < 0 {
			lacks(t, what, z, m)
		}
	}
	n := len(p)
	for _, c := range [][2]int{{0, n}, {-1, n + 1}, {math.MinInt, math.MaxInt}, {n / 3, n - n/3}, {n / 2, n/2 + 1}, {n - 1, n}, {1, 0}} {
		same(t, what+", range", z.Range(c[0], c[1]), p.places(c[0], c[1]))
	}
	for _, c := range [][2]int{{math.MinInt, math.MaxInt}, {0, 0}, {-1, 1}, {1, -1}, {2, 1 << 32}} {
		same(t, what+", between", z.Between(c[0], c[1]), p.between(c[0], c[1]))
	}
}
