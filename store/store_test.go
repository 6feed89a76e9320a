package store_test

import (
	"math"
	"slices"
	"strconv"
	"testing"

	"intaglio/api"
	"intaglio/space"
	"intaglio/store"
	"intaglio/value"
)

// at does the commands of lines at a time.
func (b *both) at(t *testing.T, now int, lines ...string) {
	t.Helper()
	b.now = now
	b.told(t, lines...)
}

// text is an entry of a string.
func text(key, s string, at int) api.Entry {
	return api.Entry{Key: key, Val: api.Val{Kind: api.VString, Text: s}, At: at}
}

// P18.1: the example.
func TestExample(t *testing.T) {
	b := newBoth(plenty)
	b.at(t, 10, "SET k 1 PX 5", "+OK")
	b.at(t, 14, "INCR k", "2")
	b.at(t, 15, "GET k", "nil")
}

// P18.1: a new store has nothing, whatever its most is; what it has is what its space has.
func TestNew(t *testing.T) {
	for _, most := range []int{math.MinInt, -1, 0, 1, 40000, math.MaxInt} {
		s := store.New(most)
		if s.Used() != 0 || len(s.Dump()) != 0 || s.Version("") != 0 || s.Version("k") != 0 || s.Sweep(math.MaxInt) != 0 {
			t.Errorf("most %d: %d, %v", most, s.Used(), s.Dump())
		}
		newBoth(most).told(t, "DBSIZE", "0", "KEYS *", "[]", "GET k", "nil", "DEL k", "0", "PING", "+PONG")
	}
}

// P18.1: what was loaded is there, with versions 0; a store of it does as the one of which it was told.
func TestLoad(t *testing.T) {
	b := loaded(t, plenty, entries()...)
	b.stands(t, []string{"Load"})
	for _, e := range entries() {
		b.version(t, "loaded", e.Key, 0)
	}
	b.at(t, 10, "INCR s", "-6", "PTTL s", "60", "RPUSH l c", "7", "PTTL l", "50", "SADD u b", "1", "HLEN h", "4", "ZCARD z", "4", "DBSIZE", "8")
	again := loaded(t, plenty, b.s.Dump()...)
	for _, both := range []*both{b, again} {
		both.at(t, 60, "EXISTS h l m s t u v z", "6", "DECR s", "-7", "PERSIST z", "1", "TTL u", "1")
	}
	if _, e := store.Load(0, nil); e != api.OK {
		t.Errorf("of no entries: %d", e)
	}
}

// P18.1: Load tells space.Load's error, and no store then.
func TestLoadErrors(t *testing.T) {
	many := text("k", "", 0)
	many.Val = api.Val{Kind: api.VList, List: make([]string, 201)}
	for _, c := range []struct {
		what string
		want api.Errno
		l    []api.Entry
	}{
		{"no key", api.EARG, []api.Entry{text("", "v", 0)}},
		{"a long key", api.EARG, []api.Entry{text(long(65), "v", 0)}},
		{"a time below 0", api.EARG, []api.Entry{text("k", "v", -1)}},
		{"a time above", api.EARG, []api.Entry{text("k", "v", 1<<40+1)}},
		{"no kind", api.EARG, []api.Entry{{Key: "k"}}},
		{"many elements", api.EFULL, []api.Entry{many}},
		{"a long text", api.ELONG, []api.Entry{text("k", long(513), 0)}},
		{"twice", api.EORDER, []api.Entry{text("k", "v", 0), text("k", "v", 0)}},
		{"falling", api.EORDER, []api.Entry{text("l", "v", 0), text("k", "v", 0)}},
		{"falling ahead of a long text", api.ELONG, []api.Entry{text("l", "v", 0), text("k", long(513), 0)}},
	} {
		for _, most := range []int{0, plenty} {
			s, e := store.Load(most, c.l)
			if _, want := space.Load(c.l); e != c.want || e != want || s != nil {
				t.Errorf("%s: %v %d, want %d", c.what, s != nil, e, c.want)
			}
		}
	}
	if s, e := store.Load(0, []api.Entry{text("k", long(512), 1<<40), text(long(64), "", 0)}); e != api.OK || s.Used() != 32+1+16+512+32+64+16 {
		t.Errorf("as much as may be: %d", e)
	}
}

// P18.1: of a store that neither New nor Load made there is nothing, and nothing is done.
func TestUnmade(t *testing.T) {
	for _, s := range []*store.Store{nil, new(store.Store), {}} {
		for range 2 {
			for _, line := range []string{"SET k v", "GET k", "PING", "NONE", "MULTI", "FLUSHALL", "INCR", ""} {
				if r := s.Do(5, 5, words(line)); !sameReply(r, api.Reply{}) || r.List != nil {
					t.Errorf("%s: %v", line, r)
				}
			}
			if s.Do(5, 5, nil).Kind != 0 || s.Sweep(math.MaxInt) != 0 || s.Sweep(-1) != 0 || s.Used() != 0 || s.Version("k") != 0 || s.Version("") != 0 || s.Dump() != nil {
				t.Error("something is there")
			}
		}
	}
}

// P18.1: a time now below 0 counts as 0, one above 2^40 as that.
func TestNow(t *testing.T) {
	for _, now := range []int{math.MinInt, -1 << 40, -1, 0} {
		b := newBoth(plenty)
		b.at(t, now, "SET k v PX 5", "+OK", "PTTL k", "5", "PEXPIREAT k 1", "1", "PTTL k", "1", "PEXPIREAT k 0", "1", "EXISTS k", "0", "SET k v EX 1099511627", "+OK", "TTL k", "1099511627", "PEXPIRE k 1099511627776", "1", "PTTL k", "1099511627776")
		if at := b.s.Dump()[0].At; at != 1<<40 {
			t.Errorf("now %d: goes at %d", now, at)
		}
	}
	for _, now := range []int{1 << 40, 1<<40 + 1, 1 << 50, math.MaxInt} {
		b := loaded(t, plenty, text("a", "", 1<<40), text("b", "", 1<<40-1), text("c", "", 0))
		b.at(t, now, "KEYS *", "['c']", "SET k v PX 1", "-"+eTime, "PEXPIRE c 1", "-"+eTime, "EXPIRE c 1", "-"+eTime, "PEXPIREAT c 1099511627777", "-"+eTime, "PEXPIREAT c 1099511627776", "1", "EXISTS c", "0", "SET c v", "+OK", "PEXPIRE c 0", "1", "SET c v", "+OK", "EXPIRE c 0", "1", "EXISTS c", "0")
	}
	b := loaded(t, plenty, text("a", "", 1<<40))
	b.at(t, 1<<40-1, "PTTL a", "1", "TTL a", "1", "PEXPIRE a 1", "1", "PEXPIRE a 2", "-"+eTime, "SET a v PX 1", "+OK", "SET a v PX 2", "-"+eTime)
	b.at(t, 1<<40, "EXISTS a", "0")
}

// P18.1: Sweep lets go what goes by now, and tells how many; Do sweeps ahead of all, be there an error too.
func TestSweep(t *testing.T) {
	for _, line := range []string{"PING", "GET k", "NONE", "GET", "MULTI", "LPUSH none", "INCR str", "GET <513>", ""} {
		for now := 4; now < 9; now++ {
			b := loaded(t, plenty, text("a", "", 5), text("b", "", 7), text("c", "", 5), text("d", "", 0), text("str", "x", 0))
			b.now = now
			b.do(t, words(line)...)
			want := map[int]int{4: 5, 5: 3, 6: 3, 7: 2, 8: 2}[now]
			if n := len(b.s.Dump()); n != want {
				t.Errorf("%s at %d: %d keys, want %d", line, now, n, want)
			}
		}
	}
	b := loaded(t, plenty, text("a", "", 5), text("b", "", 7), text("c", "", 5), text("d", "", 0), text("e", "", 1<<40))
	for _, c := range [][2]int{{math.MinInt, 0}, {-5, 0}, {0, 0}, {4, 0}, {5, 2}, {5, 0}, {-7, 0}, {6, 0}, {1 << 39, 1}, {1<<40 - 1, 0}, {math.MaxInt, 1}, {math.MaxInt, 0}} {
		if n := b.sweep(t, c[0]); n != c[1] {
			t.Errorf("%d: %d, want %d", c[0], n, c[1])
		}
	}
	b.at(t, 3, "KEYS *", "['d']")
}

// P18.1: a time may go back; then what goes later is there still.
func TestBack(t *testing.T) {
	b := newBoth(plenty)
	b.at(t, 100, "SET a v PX 5", "+OK", "SET b v PX 50", "+OK")
	b.at(t, 50, "PTTL a", "55", "PEXPIRE a 5", "1", "PTTL b", "100")
	b.at(t, 55, "GET a", "nil", "GET b", "'v'")
}

// P18.1: a version counts what left something else by a key: each Sweep, and each command behind it, once.
func TestVersion(t *testing.T) {
	b := newBoth(plenty)
	for i, c := range []struct {
		line string
		want int
	}{
		{"GET k", 0}, {"SET k 1", 1}, {"SET k 1", 1}, {"GET k", 1}, {"SET k 1 PX 50", 2}, {"SET k 1 PX 50", 2}, {"PERSIST k", 3}, {"PERSIST k", 3}, {"INCR k", 4}, {"INCRBY k 0", 4},
		{"APPEND k <0>", 4}, {"SETRANGE k 0 2", 4}, {"SETRANGE k 0 3", 5}, {"LPUSH k a", 5}, {"INCRBY k x", 5}, {"SET k 3 XX", 5}, {"SETNX k 9", 5}, {"SET k 9 NX", 5}, {"GETSET k 3", 5}, {"GETSET k 4", 6},
		{"MSET k 5 k 4", 6}, {"MSET k 5 k 6", 7}, {"RENAME k k", 7}, {"RENAME k l", 8}, {"SET k 6", 9}, {"DEL k k", 10}, {"DEL k", 10}, {"RENAME l k", 11}, {"FLUSHALL", 12}, {"FLUSHALL", 12},
		{"HSET k f t f u", 13}, {"HSET k f u", 13}, {"HSETNX k f v", 13}, {"HINCRBY k f 1", 13}, {"HINCRBY k g 0", 14}, {"HINCRBY k g 0", 14}, {"HDEL k x", 14}, {"HDEL k f g", 15}, {"HDEL k f g", 15},
		{"LPUSH k a", 16}, {"RPOPLPUSH k k", 16}, {"LSET k 0 a", 16}, {"LTRIM k 0 -1", 16}, {"LREM k 0 b", 16}, {"RPUSH k b a", 17}, {"RPOPLPUSH k k", 18}, {"LTRIM k 1 0", 19}, {"LTRIM k 1 0", 19},
		{"SADD k a", 20}, {"SADD k a", 20}, {"SMOVE k k a", 20}, {"SREM k b", 20}, {"SRANDMEMBER k", 20}, {"SMOVE k other a", 21}, {"SPOP k", 21}, {"SMOVE other k a", 22}, {"SPOP k", 23},
		{"ZADD k 5 a", 24}, {"ZADD k 5 a", 24}, {"ZADD k 6 a 5 a", 24}, {"ZINCRBY k 0 a", 24}, {"ZINCRBY k 1 a", 25}, {"ZREMRANGEBYSCORE k 0 1", 25}, {"ZREM k b", 25}, {"ZREMRANGEBYSCORE k 6 6", 26},
		{"NONE k", 26}, {"MULTI", 26}, {"SET k", 26}, {"EXPIRE k 5", 26}, {"SET k v", 27}, {"PEXPIRE k 5", 28}, {"PEXPIRE k 5", 28}, {"PEXPIREAT k 15", 28}, {"PEXPIREAT k 16", 29}, {"PEXPIREAT k 10", 30},
	} {
		b.now = 10
		b.do(t, words(c.line)...)
		b.version(t, strconv.Itoa(i)+" "+c.line, "k", c.want)
	}
	b.version(t, "the other key", "other", 2)
	b.version(t, "the key l", "l", 2)
	b.version(t, "no key", "", 0)
}

// P18.1: a key that is swept was touched, and once more if the command behind puts it there anew, be it as it was.
func TestVersionSwept(t *testing.T) {
	b := newBoth(plenty)
	b.at(t, 10, "SET k v PX 5", "+OK", "SET l v", "+OK")
	b.sweep(t, 14)
	b.version(t, "ahead", "k", 1)
	b.sweep(t, 15)
	b.version(t, "swept", "k", 2)
	b.sweep(t, 15)
	b.version(t, "swept again", "k", 2)
	b.at(t, 20, "SET k v PX 5", "+OK")
	b.at(t, 25, "SET k v PX 5", "+OK")
	b.version(t, "swept and set", "k", 5)
	b.at(t, 30, "LPUSH l a", "-"+eKind)
	b.version(t, "swept, and an error behind", "k", 6)
	b.version(t, "the other one", "l", 1)
}

// P18.1, P18.3: most bytes may be used, and not one more; less may be used at any time.
func TestMemory(t *testing.T) {
	b := newBoth(100) // a key of one byte with a string takes 49
	b.told(t, "SET a <51>", "+OK", "SET a <52>", "-"+eRoom, "GET a", "'"+long(51)+"'", "APPEND a x", "-"+eRoom, "SET b <0>", "-"+eRoom, "SET a <50>", "+OK", "APPEND a x", "51", "SETRANGE a 51 x", "-"+eRoom,
		"RENAME a bb", "-"+eRoom, "EXISTS a bb", "1", "RENAME a b", "+OK", "SET b <2>", "+OK", "SET c <0>", "+OK", "LPUSH d a", "-"+eRoom, "DEL c", "1", "MSET b <0> c <2> d <0>", "-"+eRoom, "GET b", "'xx'", "LPUSH d", "-ERR wrong number of arguments",
		"SET b <0>", "+OK", "SET d <2>", "+OK", "HSET b f t", "-"+eKind, "GETSET b xx", "-"+eRoom, "MSET b x d x", "+OK", "APPEND b x", "-"+eRoom)
	b.version(t, "behind all that was told OOM", "c", 2)
	if b.s.Used() != 100 {
		t.Error(b.s.Used())
	}
}

// P18.1: of each kind of value just as much as may be is taken, and one byte more is not.
func TestMemoryKinds(t *testing.T) {
	for line, n := range map[string]int{
		"SET k <5>": 54, "SETNX k <5>": 54, "MSET k a l b": 100, "HSET k f <5>": 63, "HSETNX k f <5>": 63, "HINCRBY k f 77": 60, "LPUSH k a b": 67, "RPUSH k <0>": 57, "SADD k a a": 58, "ZADD k 9 a": 66, "ZINCRBY k 999 a": 66, "INCR k": 50, "APPEND k ab": 51, "SETRANGE k 3 a": 53,
	} {
		for most := n - 2; most < n+2; most++ {
			b := newBoth(most)
			r := b.do(t, words(line)...)
			if fits := r.Kind != api.RError; fits != (most >= n) || !fits && r.Text != eRoom || !fits && b.s.Used() != 0 {
				t.Errorf("%s in %d: %s, used %d", line, most, show(r), b.s.Used())
			}
		}
	}
}

// P18.1: where more than most is used ahead, as much or less may be used behind, and not more.
func TestMemoryFull(t *testing.T) {
	for _, most := range []int{-1 << 62, -1, 0, 49} {
		b := loaded(t, most, text("a", "12", 0), text("b", "12", 50))
		b.told(t, "GET a", "'12'", "SET a 34", "+OK", "SET a 345", "-"+eRoom, "INCR a", "35", "RENAME a c", "+OK", "SET c 1", "+OK", "SET c 12", "-"+eRoom, "DECR b", "11", "PERSIST b", "1", "PEXPIRE b 60", "1",
			"EXPIRE none 1", "0", "MSET b 1 c 23", "+OK", "MSET b 12 c 23", "-"+eRoom, "SET d x", "-"+eRoom, "DBSIZE", "2", "LPUSH b x", "-"+eKind, "PEXPIRE b 60", "1")
		b.at(t, 60, "SET c 234", "-"+eRoom, "SET d x", "-"+eRoom, "KEYS *", "['c']", "SET c 1", "+OK")
		if most >= 0 {
			b.told(t, "DEL c", "1")
		}
	}
	// What is swept is not used ahead of the command.
	b := loaded(t, 98, text("a", long(100), 5), text("b", "", 0))
	b.at(t, 4, "SET c <0>", "-"+eRoom)
	b.at(t, 5, "SET c <1>", "-"+eRoom, "SET c <0>", "+OK")
}

// P1: an answer is new memory, and what was handed in is not kept.
func TestNewMemory(t *testing.T) {
	l := entries()
	b := loaded(t, plenty, l...)
	for _, e := range l {
		clear(e.Val.Pairs)
		clear(e.Val.List)
		clear(e.Val.Scores)
	}
	b.stands(t, []string{"Load, and a change of what was handed in"})
	for _, e := range b.s.Dump() {
		clear(e.Val.Pairs)
		clear(e.Val.List)
		clear(e.Val.Scores)
	}
	b.stands(t, []string{"a change of what Dump told"})
	for _, line := range []string{"LRANGE l 0 -1", "SMEMBERS u", "HGETALL h", "HVALS h", "ZRANGE z 0 -1 WITHSCORES", "MGET s t", "KEYS *", "SUNION u v", "ZRANGEBYSCORE z -inf +inf"} {
		r := b.do(t, words(line)...)
		kept := api.Reply{Kind: r.Kind, List: slices.Clone(r.List)}
		other := b.do(t, words(line)...)
		clear(r.List)
		if !sameReply(other, kept) {
			t.Errorf("%s: two answers share memory", line)
		}
		b.do(t, words(line)...)
	}
	args := []string{"RPUSH", "new", "a", "b"}
	b.do(t, args...)
	clear(args)
	b.told(t, "LRANGE new 0 -1", "['a' 'b']")
}

// P1: two stores have nothing in common; what one is told hangs on what it was told alone.
func TestTwoStores(t *testing.T) {
	one, two := loaded(t, plenty, entries()...), loaded(t, plenty, entries()...)
	one.told(t, "FLUSHALL", "+OK")
	two.stands(t, nil)
	two.told(t, "DBSIZE", "8", "SET new v", "+OK")
	one.told(t, "DBSIZE", "0")
	one.version(t, "the other store's", "new", 0)
}

// P18.1: values are kept as they may be loaded again, whatever befalls them.
func TestDumpLoads(t *testing.T) {
	b := fresh(t)
	for _, line := range []string{"HDEL h 1 a b", "LTRIM l 1 1", "SPOP u", "SPOP v", "ZREM z a b", "APPEND t <508>", "SETRANGE s 510 ab", "PEXPIREAT t 1099511627776", "RPOPLPUSH m l", "RENAME z <64>"} {
		b.do(t, words(line)...)
		for _, e := range b.s.Dump() {
			if x := value.Entry(e); x != api.OK {
				t.Errorf("%s: %.100v: %d", line, e, x)
			}
		}
		s, e := store.Load(0, b.s.Dump())
		if e != api.OK || s.Used() != b.s.Used() {
			t.Errorf("%s: %d", line, e)
		}
	}
}
