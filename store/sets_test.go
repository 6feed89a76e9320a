package store_test

import (
	"math"
	"slices"
	"testing"

	"intaglio/api"
)

// P18.1: SADD, SREM, SISMEMBER, SCARD, SMEMBERS.
func TestMembers(t *testing.T) {
	each(t, []string{"SADD s c a <0> b", "4"}, "SADD s a", "0", "SADD s d", "1", "SADD s d a d e", "2", "SADD none a a", "1", "SREM s a", "1", "SREM s x", "0", "SREM s a x a b", "2", "SREM none a", "0", "SISMEMBER s a", "1", "SISMEMBER s <0>", "1", "SISMEMBER s x", "0", "SISMEMBER none a", "0",
		"SCARD s", "4", "SCARD none", "0", "SMEMBERS s", "['' 'a' 'b' 'c']", "SMEMBERS none", "[]")
	each(t, []string{"SADD k k", "1"}, "SREM k m", "0", "SREM k k", "1", "SADD k m", "1", "SMOVE k m m", "0", "SMOVE k m k", "1")
	b := newBoth(plenty)
	b.told(t, "SADD s b a", "2", "SREM s a", "1", "SADD s \xff \x7f é B", "4", "SMEMBERS s", "['B' 'b' '\x7f' 'é' '\xff']", "SREM s B b \x7f é", "4", "SMEMBERS s", "['\xff']")
}

// P18.1: those in all sets, in one, in the first and no other one; rising.
func TestJoin(t *testing.T) {
	each(t, []string{"SADD a 1 2 3", "3", "SADD b 3 2 4", "3", "SADD c 2 9", "2"}, "SINTER a", "['1' '2' '3']", "SINTER a b", "['2' '3']", "SINTER a b c", "['2']", "SINTER a a", "['1' '2' '3']", "SINTER a none", "[]", "SINTER none a", "[]", "SINTER none", "[]",
		"SUNION a", "['1' '2' '3']", "SUNION c a b", "['1' '2' '3' '4' '9']", "SUNION a a", "['1' '2' '3']", "SUNION none a", "['1' '2' '3']", "SUNION none none", "[]",
		"SDIFF a", "['1' '2' '3']", "SDIFF a b", "['1']", "SDIFF a c", "['1' '3']", "SDIFF a c b", "['1']", "SDIFF b a c", "['4']", "SDIFF a a", "[]", "SDIFF a b a", "[]", "SDIFF none a", "[]", "SDIFF a none", "['1' '2' '3']", "SDIFF none", "[]")
}

// P18.1: more than 200 members may be told, of many sets.
func TestJoinMuch(t *testing.T) {
	b := newBoth(plenty)
	keys := []string{"SUNION"}
	for i := range 39 {
		key := "s" + string(rune('A'+i))
		b.do(t, "SADD", key, "all", key, key+"x", key+"y", key+"z", key+"0", key+"1", key+"2")
		keys = append(keys, key)
	}
	if r := b.do(t, keys...); len(r.List) != 39*7+1 {
		t.Errorf("%d", len(r.List))
	}
	keys[0] = "SINTER"
	if got := show(b.do(t, keys...)); got != "['all']" {
		t.Error(got)
	}
	keys[0] = "SDIFF"
	if r := b.do(t, keys...); len(r.List) != 7 {
		t.Errorf("%d", len(r.List))
	}
}

// P18.1: the member at the place draw, as a number without a sign, modulo how many there are; SPOP takes it.
func TestDraw(t *testing.T) {
	members := []string{"a", "b", "c", "d", "e", "f", "g"}
	for n := 1; n <= 7; n++ {
		for _, draw := range []int{0, 1, 2, 6, 7, 8, 100, math.MaxInt, math.MaxInt - 1, -1, -2, -3, -7, -8, math.MinInt, math.MinInt + 1} {
			b := newBoth(plenty)
			b.draw = draw
			b.do(t, append([]string{"SADD", "s"}, members[:n]...)...)
			want := members[uint64(draw)%uint64(n)]
			b.told(t, "SRANDMEMBER s", "'"+want+"'", "SRANDMEMBER s", "'"+want+"'", "SPOP s", "'"+want+"'")
			left := slices.DeleteFunc(slices.Clone(members[:n]), func(m string) bool { return m == want })
			if r := b.do(t, "SMEMBERS", "s"); len(r.List) != n-1 || !slices.EqualFunc(r.List, left, func(r api.Reply, m string) bool { return r.Text == m }) {
				t.Errorf("%d, draw %d: %s", n, draw, show(r))
			}
			b.told(t, "SPOP none", "nil", "SRANDMEMBER none", "nil", "EXISTS none", "0")
		}
	}
	b := newBoth(plenty)
	b.draw = math.MinInt // 2^63
	b.told(t, "SADD s a b c", "3", "SPOP s", "'c'", "SPOP s", "'a'", "SPOP s", "'b'", "SPOP s", "nil", "EXISTS s", "0")
	b.draw = -1 // 2^64 - 1
	b.told(t, "SADD s a b c d e f g", "7", "SPOP s", "'b'", "SPOP s", "'e'")
}

// P18.1: a member goes from a to b, if a has it; of one key nothing changes.
func TestMove(t *testing.T) {
	b := newBoth(plenty)
	b.told(t, "SADD a 1 2", "2", "SADD b 2 3", "2", "SMOVE a b 9", "0", "SMOVE none b 1", "0", "SMOVE a b 1", "1", "SMEMBERS a", "['2']", "SMEMBERS b", "['1' '2' '3']", "SMOVE a a 2", "1", "SMOVE a a 3", "0", "SMEMBERS a", "['2']", "SMOVE a b 2", "1", "EXISTS a", "0", "SMEMBERS b", "['1' '2' '3']",
		"SMOVE b new 1", "1", "SMEMBERS new", "['1']", "SMEMBERS b", "['2' '3']", "SMOVE none none x", "0", "EXISTS none", "0")
}
