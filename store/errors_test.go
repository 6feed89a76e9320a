package store_test

import (
	"slices"
	"strings"
	"testing"

	"intaglio/api"
	"intaglio/verb"
)

// P18.1: first verb.Check's error, then that a command is not for here.
func TestChecked(t *testing.T) {
	const count = "-ERR wrong number of arguments"
	each(t, nil,
		"NONE", "-ERR unknown command", `""`, "-ERR unknown command", "MULTI", "-"+eHere, "exec", "-"+eHere, "Discard", "-"+eHere, "UNWATCH", "-"+eHere, "WATCH k", "-"+eHere, "watch k l", "-"+eHere,
		"MULTI x", count, "EXEC x", count, "DISCARD x", count, "UNWATCH x", count, "WATCH", count, `WATCH ""`, "-ERR bad key", "WATCH <65>", "-ERR bad key", "WATCH k <513>", "-"+eLong,
		"GET", count, "GET k l", count, `GET ""`, "-ERR bad key", "GET <65>", "-ERR bad key", "GET <64>", "nil", "SET k <513>", "-"+eLong, "SET k <512>", "+OK", "INCRBY <65> x", "-ERR bad key", "INCRBY k <513>", "-"+eLong,
		"ECHO <512>", "'"+long(512)+"'", "ECHO <513>", "-"+eLong, `ECHO ""`, "''", "KEYS <513>", "-"+eLong, "PING a b", count, "FLUSHALL x", count, "MSET k", count, "MSET k a l", count, "ZADD k 1", count, "ZADD k 1 a x", count, "HSET k f", count)
	b := newBoth(plenty)
	if r := b.do(t); show(r) != "-ERR unknown command" {
		t.Error(show(r))
	}
}

// P18.1: names in any letters do the same.
func TestLetters(t *testing.T) {
	b := newBoth(plenty)
	b.told(t, "set k v", "+OK", "gEt k", "'v'", "sEtNx k w", "0", "ping", "+PONG", "Type k", "+string", "KEYS K", "[]", "mget k K", "['v' nil]")
}

// P18.1: over the words from left to right the first that may not be is told, ahead of the keys' kinds and of all else.
func TestWordsFirst(t *testing.T) {
	ahead := []string{"RPUSH l a", "1", "SET t text", "+OK", "ZADD z 1 a", "1"}
	each(t, ahead,
		"SET t v EX x XX NX", "-"+eInt, "SET t v NX XX EX x", "-"+eSyntax, "SET t v EX 0 FOO", "-"+eTime, "SET t v FOO EX 0", "-"+eSyntax, "SET t v EX 0 EX x", "-"+eTime, "SET t v EX x PX 0", "-"+eInt, "SET t v PX 0 EX x", "-"+eTime,
		"SET l v XX PX 1.5", "-"+eInt, "SET none v XX PX 0", "-"+eTime, "SET t v EX 5 PX x", "-"+eSyntax, "SET t v NX NX EX x", "-"+eSyntax, "SET t v EX EX", "-"+eInt, "SET t v EX NX", "-"+eInt, "SET t v NX EX", "-"+eSyntax,
		"INCRBY l x", "-"+eInt, "INCRBY l 1", "-"+eKind, "DECRBY l x", "-"+eInt, "INCRBY t x", "-"+eInt, "INCRBY t 1", "-"+eInt, "DECRBY t -9223372036854775808", "-"+eInt, "DECRBY l -9223372036854775808", "-"+eKind,
		"SETRANGE l x v", "-"+eInt, "SETRANGE l 513 v", "-"+eKind, "SETRANGE l -1 v", "-"+eKind, "SETRANGE t 513 v", "-"+ePlace, "SETRANGE t 512 v", "-"+eLong, "GETRANGE l x 1", "-"+eInt, "GETRANGE l 1 x", "-"+eInt, "GETRANGE l 1 1", "-"+eKind,
		"LRANGE t x 1", "-"+eInt, "LRANGE t 1 x", "-"+eInt, "LRANGE t 1 1", "-"+eKind, "LINDEX t x", "-"+eInt, "LINDEX t 1", "-"+eKind, "LSET t x v", "-"+eInt, "LSET t 5 v", "-"+eKind, "LSET none x v", "-"+eInt, "LSET none 5 v", "-"+eKey, "LSET l 5 v", "-"+ePlace,
		"LTRIM t x 1", "-"+eInt, "LTRIM t 1 x", "-"+eInt, "LTRIM t 0 0", "-"+eKind, "LREM t x v", "-"+eInt, "LREM t 0 v", "-"+eKind, "HINCRBY t f x", "-"+eInt, "HINCRBY t f 1", "-"+eKind,
		"ZADD t x a", "-"+eInt, "ZADD t 1 a x b", "-"+eInt, "ZADD t 1 a 2 b", "-"+eKind, "ZADD none 1 a 2", "-ERR wrong number of arguments", "ZINCRBY t x a", "-"+eInt, "ZINCRBY t 1 a", "-"+eKind,
		"ZRANGE t x 1 FOO", "-"+eInt, "ZRANGE t 1 x FOO", "-"+eInt, "ZRANGE t 1 1 FOO", "-"+eSyntax, "ZRANGE none 1 1 FOO", "-"+eSyntax, "ZRANGE t 1 1 withScores", "-"+eKind, "ZREVRANGE t 1 x", "-"+eInt, "ZREVRANGE t x 1", "-"+eInt, "ZREVRANGE t 1 1", "-"+eKind,
		"ZRANGEBYSCORE t x 1", "-"+eInt, "ZRANGEBYSCORE t 1 inf", "-"+eInt, "ZRANGEBYSCORE t -inf +inf", "-"+eKind, "ZCOUNT t (1 2", "-"+eInt, "ZCOUNT t 1 2", "-"+eKind, "ZREMRANGEBYSCORE t 1 x", "-"+eInt, "ZREMRANGEBYSCORE t 1 2", "-"+eKind,
		"EXPIRE none x", "-"+eInt, "PEXPIRE none x", "-"+eInt, "PEXPIREAT none x", "-"+eInt, "EXPIRE none 1099511628", "-"+eTime, "PEXPIRE none 1099511627777", "-"+eTime, "PEXPIREAT none 1099511627777", "-"+eTime,
	)
}

// first are the commands whose first key must be of a kind, each with words that may stand behind it.
func first(kind int, key string) []string {
	return map[int][]string{
		api.VString: {"GET k", "STRLEN k", "GETSET k v", "APPEND k v", "APPEND k <0>", "SETRANGE k 0 v", "SETRANGE k 0 <0>", "GETRANGE k 0 0", "INCR k", "DECR k", "INCRBY k 0", "DECRBY k 0"},
		api.VHash:   {"HSET k f v", "HSETNX k f v", "HGET k f", "HMGET k f g", "HEXISTS k f", "HDEL k f", "HLEN k", "HGETALL k", "HKEYS k", "HVALS k", "HINCRBY k f 1"},
		api.VList:   {"LPUSH k v", "RPUSH k v", "LPOP k", "RPOP k", "LLEN k", "LRANGE k 0 0", "LINDEX k 0", "LSET k 0 v", "LTRIM k 0 0", "LREM k 0 v", "RPOPLPUSH k none", "RPOPLPUSH k k", "RPOPLPUSH k other"},
		api.VSet:    {"SADD k m", "SREM k m", "SISMEMBER k m", "SCARD k", "SMEMBERS k", "SINTER k", "SINTER none k", "SUNION k none", "SUNION none k", "SDIFF k", "SDIFF none none k", "SRANDMEMBER k", "SPOP k", "SMOVE k none m", "SMOVE k k m", "SMOVE none k m"},
		api.VZset:   {"ZADD k 1 m", "ZREM k m", "ZSCORE k m", "ZINCRBY k 1 m", "ZCARD k", "ZRANK k m", "ZREVRANK k m", "ZRANGE k 0 0", "ZREVRANGE k 0 0", "ZRANGEBYSCORE k 0 0", "ZCOUNT k 0 0", "ZREMRANGEBYSCORE k 0 0"},
	}[kind]
}

// P18.1: a key that holds another kind is told, of each command that is of a kind; on one of its kind, and on none, it is not.
func TestWrongKind(t *testing.T) {
	make := map[int]string{api.VString: "SET k 5", api.VHash: "HSET k f 5", api.VList: "RPUSH k a", api.VSet: "SADD k m", api.VZset: "ZADD k 1 m"}
	seen := map[string]bool{}
	for kind := range make {
		for _, line := range first(kind, "k") {
			seen[strings.Fields(line)[0]] = true
			newBoth(plenty).do(t, words(line)...)
			for other, first := range make {
				b := newBoth(plenty)
				b.told(t, "SET other 1", "+OK")
				b.do(t, words(first)...)
				r := b.do(t, words(line)...)
				wrong := show(r) == "-"+eKind
				if want := other != kind || strings.HasSuffix(line, "k other"); wrong != want {
					t.Errorf("%s behind %s: %s", line, first, show(r))
				}
			}
		}
	}
	for name := range kinds {
		if !seen[name] {
			t.Errorf("the test is wrong: no %s", name)
		}
	}
	for _, name := range names() {
		if _, of := kinds[name]; !of {
			for _, first := range make {
				b := newBoth(plenty)
				b.do(t, words(first)...)
				spec, _ := verb.Find(name)
				args := append([]string{name, "k"}, slices.Repeat([]string{"1"}, max(spec.Min-2, 0))...)
				if r := b.do(t, args[:max(spec.Min, 1)]...); r.Text == eKind {
					t.Errorf("%q behind %s: %s", args, first, show(r))
				}
			}
		}
	}
}

// P18.1: of several keys the first that is looked at and holds another kind is told, and nothing has changed.
func TestWrongKindBehind(t *testing.T) {
	ahead := []string{"RPUSH l a b", "2", "SADD s m", "1", "SET t text", "+OK"}
	each(t, ahead, "RPOPLPUSH l t", "-"+eKind, "RPOPLPUSH l s", "-"+eKind, "RPOPLPUSH t l", "-"+eKind, "RPOPLPUSH none t", "nil", "RPOPLPUSH none none", "nil", "SMOVE s t m", "-"+eKind, "SMOVE s t none", "-"+eKind, "SMOVE none t m", "-"+eKind, "SMOVE t s m", "-"+eKind,
		"SINTER s none t", "-"+eKind, "SINTER none t", "-"+eKind, "SDIFF none t", "-"+eKind, "SUNION s s l", "-"+eKind, "MGET t l s none", "['text' nil nil nil]")
}

// P18.1: a value has at most 200 elements, of each kind; what is told of one more leaves all as it was.
func TestManyElements(t *testing.T) {
	for name, args := range map[string]func(i string) []string{
		"LPUSH": func(i string) []string { return []string{i} }, "RPUSH": func(i string) []string { return []string{i} }, "SADD": func(i string) []string { return []string{i} },
		"HSET": func(i string) []string { return []string{i, "v"} }, "ZADD": func(i string) []string { return []string{i, i} },
	} {
		b := newBoth(plenty)
		for n := range 199 {
			b.do(t, append([]string{name, "k"}, args(verb.Text(n))...)...)
		}
		two := append(args("1001"), args("1002")...)
		if r := b.do(t, append([]string{name, "k"}, two...)...); r.Text != eMany {
			t.Errorf("%s of two: %s", name, show(r))
		}
		if r := b.do(t, append([]string{name, "k"}, args("1001")...)...); r.Kind != api.RInt {
			t.Errorf("%s of one: %s", name, show(r))
		}
		if r := b.do(t, append([]string{name, "k"}, args("1002")...)...); r.Text != eMany {
			t.Errorf("%s of one more: %s", name, show(r))
		}
		again := b.do(t, append([]string{name, "k"}, args("1001")...)...)
		if list := name[1:] == "PUSH"; list && again.Text != eMany || !list && show(again) != "0" {
			t.Errorf("%s of one that is there: %s", name, show(again))
		}
	}
}

// filled is a store that has 200 elements of each kind by h, l, s, z, and by others few.
func filled(t *testing.T) *both {
	t.Helper()
	e := []api.Entry{
		{Key: "few", Val: api.Val{Kind: api.VList, List: []string{"new", "more"}}}, {Key: "h", Val: api.Val{Kind: api.VHash}}, {Key: "l", Val: api.Val{Kind: api.VList}},
		{Key: "s", Val: api.Val{Kind: api.VSet}}, {Key: "some", Val: api.Val{Kind: api.VSet, List: []string{"100", "new"}}}, {Key: "z", Val: api.Val{Kind: api.VZset}},
	}
	for i := 100; i < 300; i++ {
		x := verb.Text(i)
		e[1].Val.Pairs = append(e[1].Val.Pairs, api.Pair{Field: x, Text: x})
		e[2].Val.List = append(e[2].Val.List, x)
		e[3].Val.List = append(e[3].Val.List, x)
		e[5].Val.Scores = append(e[5].Val.Scores, api.Score{Member: x, Score: i})
	}
	return loaded(t, plenty, e...)
}

// P18.1: so it is with each other command that puts something into a value.
func TestManyElsewhere(t *testing.T) {
	filled(t).told(t,
		"HSETNX h 100 v", "0", "HSETNX h new v", "-"+eMany, "HINCRBY h 100 1", "101", "HINCRBY h new 1", "-"+eMany, "HDEL h 101", "1", "HINCRBY h new 1", "1", "HSETNX h more 1", "-"+eMany,
		"RPOPLPUSH few l", "-"+eMany, "LRANGE few 0 -1", "['new' 'more']", "RPOPLPUSH l l", "'299'", "LLEN l", "200", "RPOPLPUSH l few", "'298'", "RPOPLPUSH few l", "'more'", "RPOPLPUSH few l", "-"+eMany,
		"SMOVE some s new", "-"+eMany, "SMOVE some s 100", "1", "SMEMBERS some", "['new']", "SCARD s", "200", "SPOP s", "'100'", "SMOVE some s new", "1", "EXISTS some", "0",
		"ZINCRBY z 1 100", "'101'", "ZINCRBY z 1 new", "-"+eMany, "ZADD z 1 100 2 101", "0", "ZADD z 1 new", "-"+eMany, "ZREM z 299", "1", "ZINCRBY z 1 new", "'1'", "ZCARD z", "200")
	b := filled(t)
	b.told(t, "SET t v", "+OK", "RPUSH l2 a", "1")
	for _, line := range []string{"SUNION s some", "SDIFF s some", "LRANGE l 0 -1", "HGETALL h", "ZRANGE z 0 -1 WITHSCORES"} {
		if r := b.do(t, words(line)...); r.Kind != api.RArray {
			t.Errorf("%s: %s", line, show(r))
		}
	}
}

// P18.1: a text has at most 512 bytes.
func TestLongTexts(t *testing.T) {
	each(t, []string{"SET k <510>", "+OK", "SET n 5", "+OK"},
		"APPEND k <2>", "512", "APPEND k <3>", "-"+eLong, "APPEND k <512>", "-"+eLong, "APPEND none <512>", "512", "SETRANGE k 510 ab", "512", "SETRANGE k 511 a", "512", "SETRANGE k 511 ab", "-"+eLong, "SETRANGE k 512 a", "-"+eLong,
		"SETRANGE k 512 <0>", "510", "SETRANGE none 511 a", "512", "SETRANGE none 512 a", "-"+eLong, "SETRANGE none 512 <0>", "0", "SETRANGE k 0 <512>", "512", "SETRANGE k 1 <512>", "-"+eLong, "SETRANGE n 1 <512>", "-"+eLong, "SETRANGE k 513 <0>", "-"+ePlace)
	each(t, nil, "LPUSH l <512>", "1", "LPUSH l <513>", "-"+eLong, "HSET h <512> <512>", "1", "SADD s <512>", "1", "ZADD z 1 <512>", "1", "RPUSH l a <513>", "-"+eLong)
}
