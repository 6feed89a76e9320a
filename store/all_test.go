package store_test

import (
	"math"
	"math/rand"
	"strconv"
	"strings"
	"testing"

	"intaglio/api"
	"intaglio/verb"
)

// names are the names of all commands.
func names() []string {
	return strings.Fields(`PING ECHO KEYS DBSIZE MULTI EXEC DISCARD UNWATCH FLUSHALL WATCH EXISTS MGET SINTER SUNION SDIFF DEL
		GET STRLEN TYPE TTL PTTL HLEN HGETALL HKEYS HVALS LLEN SCARD SMEMBERS SRANDMEMBER ZCARD INCR DECR PERSIST LPOP RPOP SPOP SET
		GETSET SETNX APPEND INCRBY DECRBY EXPIRE PEXPIRE PEXPIREAT RENAME RPOPLPUSH MSET HGET HEXISTS LINDEX SISMEMBER ZSCORE ZRANK ZREVRANK
		HMGET HDEL LPUSH RPUSH SADD SREM ZREM GETRANGE LRANGE ZREVRANGE ZRANGEBYSCORE ZCOUNT SETRANGE HSETNX HINCRBY LSET LTRIM LREM ZINCRBY
		ZREMRANGEBYSCORE SMOVE ZRANGE HSET ZADD`)
}

// letters are a name in letters of both kinds.
func letters(name string, rnd *rand.Rand) string {
	b := []byte(name)
	for i := range b {
		if rnd.Intn(4) == 0 {
			b[i] |= 0x20
		}
	}
	return string(b)
}

// pool are words that mean something somewhere.
func pool() []string {
	return []string{
		"a", "b", "", "0", "1", "-1", "2", "-3", "7", "s", "l", "u", "z", "+inf", "-inf", "NX", "xx", "EX", "px", "WITHSCORES", "text", "01", "1.5", "512", "513",
		strconv.Itoa(math.MaxInt), strconv.Itoa(math.MinInt), strconv.Itoa(math.MinInt + 1), "9223372036854775808", "1099511627", "1099511628", "1099511627776", "1099511627777", "1099511627766", "1099511627767", long(511), long(512), long(513),
	}
}

// few are some of them.
func few() []string { return []string{"a", "", "0", "1", "-1", "-3", "+inf"} }

// fresh is a store of entries of all kinds, at the time 10.
func fresh(t *testing.T) *both {
	t.Helper()
	b := loaded(t, plenty, entries()...)
	b.now, b.draw = 10, 4
	return b
}

// ground is a fresh store, made anew behind each command that changed something.
type ground struct{ b *both }

func (g *ground) do(t *testing.T, args ...string) {
	t.Helper()
	if g.b == nil || len(g.b.p.versions) > 0 {
		g.b = fresh(t)
	}
	g.b.said = g.b.said[:len(entries())]
	g.b.do(t, args...)
}

// P18.1, P18.2: each command, with as few words as may be and one less and more, on keys of each kind and on none, with any words behind.
func TestEachCommand(t *testing.T) {
	if n := len(names()); n != 79 {
		t.Fatalf("the test is wrong: %d commands", n)
	}
	keys := []string{"none", "h", "l", "m", "s", "t", "u", "v", "z"}
	for _, name := range names() {
		t.Run(name, func(t *testing.T) {
			t.Parallel()
			spec, _ := verb.Find(name)
			var g ground
			g.do(t, name)
			for _, key := range append(keys, "", long(64), long(65)) {
				g.do(t, name, key)
				if spec.Max == 2 {
					g.do(t, name, key, "a")
				}
			}
			if spec.Max < 3 {
				return
			}
			own := string("thluz"[max(kinds[name], 1)-1])
			for k, key := range append([]string{own, "none", "m"}, keys...) {
				for i, second := range append(pool(), keys...) {
					g.do(t, name, key, second)
					for j, third := range append(few(), pool()...) {
						if spec.Min <= 4 && spec.Max > 3 && k < 3 && (j < len(few()) || (i+j)%9 == 0) {
							g.do(t, name, key, second, third)
						}
					}
				}
			}
		})
	}
}

// P18.1: each command with as many words as may be, one less and one more, on keys of each kind and on none.
func TestMostWords(t *testing.T) {
	for _, name := range names() {
		spec, _ := verb.Find(name)
		for _, key := range []string{"none", "h", "l", "s", "t", "u", "z"} {
			for n := max(spec.Max-2, 1); n <= spec.Max+1; n++ {
				args := []string{name, key}
				for i := 2; i < n; i++ {
					args = append(args, strconv.Itoa(i*i%30))
				}
				b := fresh(t)
				b.do(t, args[:n]...)
				b.do(t, args[:n]...)
			}
		}
	}
}

// P18.1: SET with any words behind its text, in any order.
func TestSetWords(t *testing.T) {
	words := []string{"NX", "nx", "XX", "xX", "EX", "ex", "PX", "Px", "5", "0", "-1", "a", "", "1099511627", "1099511628", "1099511627766", "1099511627767", "NXX"}
	var g ground
	var try func(n int, args ...string)
	try = func(n int, args ...string) {
		g.do(t, args...)
		if n > 0 {
			for _, w := range words {
				try(n-1, append(args[:len(args):len(args)], w)...)
			}
		}
	}
	try(3, "SET", "none", "new")
	try(2, "SET", "l", "new")
	rnd := rand.New(rand.NewSource(1))
	for range 6000 {
		args := []string{"set", []string{"none", "s", "z"}[rnd.Intn(3)], "new"}
		for range 4 {
			args = append(args, words[rnd.Intn(len(words))])
		}
		g.do(t, args...)
	}
}

// anything is a command of any name and words, such that most of them may be.
func anything(rnd *rand.Rand) []string {
	all := names()
	name := all[rnd.Intn(len(all))]
	if name == "FLUSHALL" && rnd.Intn(20) > 0 {
		name = "MSET"
	}
	spec, _ := verb.Find(name)
	n := spec.Min + rnd.Intn(min(spec.Max-spec.Min, 6)+1)
	if spec.Odd && n%2 == 0 || spec.Even && n%2 == 1 {
		n++
	}
	args := []string{letters(name, rnd)}
	small := []string{"a", "b", "c", "", "0", "1", "2", "-1", "-2", "5", "text"}
	for i := 1; i < n; i++ {
		w := small[rnd.Intn(len(small))]
		if rnd.Intn(30) == 0 {
			w = pool()[rnd.Intn(len(pool()))]
		}
		args = append(args, w)
	}
	for i := spec.First; spec.First > 0 && i < n && (spec.Last < 0 || i <= spec.Last); i += spec.Step {
		args[i] = string("klhsz"[rnd.Intn(5)]) + string("12"[rnd.Intn(2)])
		if kind := kinds[name]; kind > 0 && rnd.Intn(8) > 0 {
			args[i] = string("kkhlsz"[kind]) + string("12"[rnd.Intn(2)])
		}
	}
	return args
}

// P18.1 to P18.3: any commands, one behind the other, at any times, in little memory and in much.
func TestAnyCommands(t *testing.T) {
	rnd := rand.New(rand.NewSource(2))
	for run := range 60 {
		most := plenty
		if run%2 == 0 {
			most = rnd.Intn(900) - 20
		}
		b := newBoth(most)
		if run%4 == 0 {
			b = loaded(t, most, entries()...)
		}
		for range 600 {
			b.now += rnd.Intn(4)
			if rnd.Intn(100) == 0 {
				b.now -= rnd.Intn(200)
			}
			b.draw = rnd.Intn(9) - 4
			ahead := b.s.Used()
			b.do(t, anything(rnd)...)
			if n := b.s.Used(); n > most && n > ahead {
				t.Fatalf("%d bytes are used, behind %d, of at most %d", n, ahead, most)
			}
			b.said = []string{"k1", "k2", "l1", "l2", "h1", "h2", "s1", "s2", "z1", "z2", "l", "u", "z", "a", "b"}
			if rnd.Intn(10) == 0 {
				b.sweep(t, b.now+rnd.Intn(5)-1)
			}
		}
	}
}

// P18.2: a command that does not Write, and one that is told an error, leaves all as it is, but for what goes by then.
func TestNoChange(t *testing.T) {
	rnd := rand.New(rand.NewSource(3))
	changes := 0
	for range 12000 {
		b := loaded(t, 700, entries()...)
		now, args := rnd.Intn(100), anything(rnd)
		if rnd.Intn(2) == 0 && len(args) > 1 {
			args[1] = entries()[rnd.Intn(8)].Key
		}
		like := loaded(t, 700, entries()...)
		like.s.Sweep(now)
		r := b.s.Do(now, rnd.Intn(9), args)
		spec, _ := verb.Find(args[0])
		same := used(b.s.Dump()) == used(like.s.Dump())
		for i, e := range b.s.Dump() {
			same = same && i < len(like.s.Dump()) && sameEntry(e, like.s.Dump()[i])
		}
		for _, key := range append(args, "h", "l", "m", "s", "t", "u", "v", "z") {
			same = same && b.s.Version(key) == like.s.Version(key)
		}
		if !same {
			changes++
			if !spec.Writes || r.Kind == api.RError {
				t.Fatalf("%q at %d: %s, and something changed", args, now, show(r))
			}
		}
	}
	if changes < 500 {
		t.Errorf("the test is wrong: %d changes", changes)
	}
}
