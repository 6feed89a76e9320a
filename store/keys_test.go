package store_test

import (
	"math"
	"strconv"
	"testing"
)

// five are lines that make a key of each kind.
func five() []string {
	return []string{"SET str 5", "+OK", "HSET hash f v", "1", "RPUSH list a b", "2", "SADD set m", "1", "ZADD zset 1 m", "1"}
}

// P18.1: PING, ECHO, DBSIZE, KEYS, FLUSHALL.
func TestNoKeys(t *testing.T) {
	each(t, nil, "PING", "+PONG", "PING a", "'a'", `PING ""`, "''", "ECHO a", "'a'", `ECHO ""`, "''", "ECHO ping", "'ping'", "DBSIZE", "0", "KEYS *", "[]", `KEYS ""`, "[]", "FLUSHALL", "+OK")
	each(t, five(), "DBSIZE", "5", "KEYS *", "['hash' 'list' 'set' 'str' 'zset']", "KEYS *set", "['set' 'zset']", "KEYS s?[rt]", "['set' 'str']", "KEYS [^s]*t", "['list' 'zset']", "KEYS none", "[]", `KEYS ""`, "[]", `KEYS s\et`, "['set']", "PING", "+PONG", "ECHO set", "'set'")
	b := newBoth(plenty)
	b.told(t, five()...)
	b.told(t, "PEXPIRE set 5", "1", "FLUSHALL", "+OK", "DBSIZE", "0", "KEYS *", "[]", "FLUSHALL", "+OK", "SADD set n", "1", "PTTL set", "-1", "SMEMBERS set", "['n']")
}

// P18.1: EXISTS and DEL count words, be a key there twice; TYPE of each kind.
func TestThere(t *testing.T) {
	each(t, five(), "EXISTS none", "0", "EXISTS str", "1", "EXISTS str none list", "2", "EXISTS str str none str", "3", "DEL none", "0", "DEL str", "1", "DEL str none list", "2", "DEL str str none str", "1", "DEL set zset hash list str", "5",
		"TYPE none", "+none", "TYPE str", "+string", "TYPE hash", "+hash", "TYPE list", "+list", "TYPE set", "+set", "TYPE zset", "+zset")
	each(t, []string{"SET EXISTS v", "+OK", "SET DEL v", "+OK"}, "EXISTS none", "0", "EXISTS EXISTS", "1", "DEL none", "0", "DEL DEL none", "1")
	b := newBoth(plenty)
	b.told(t, five()...)
	b.told(t, "DEL str set", "2", "EXISTS str hash list set zset", "3", "TYPE str", "+none", "GET str", "nil", "LPUSH set a", "1", "TYPE set", "+list")
}

// P18.1: what stands by a stands by b, of whatever kind and with its time, and not by a; from a key to itself it stays.
func TestRename(t *testing.T) {
	for _, kind := range []string{"str", "hash", "list", "set", "zset"} {
		for _, to := range []string{"none", "str", "hash", "list", "set", "zset"} {
			for _, time := range []string{"", kind, to} {
				b := newBoth(plenty)
				b.now = 10
				b.told(t, five()...)
				if time != "" && time != "none" {
					b.told(t, "PEXPIRE "+time+" 50", "1")
				}
				there := "0"
				if kind == to {
					there = "1"
				}
				left := "-1"
				if time == kind {
					left = "50"
				}
				b.told(t, "RENAME "+kind+" "+to, "+OK", "EXISTS "+kind, there, "PTTL "+to, left)
			}
		}
	}
	each(t, five(), "RENAME none str", "-"+eKey, "RENAME none none", "-"+eKey, "RENAME none other", "-"+eKey)
	b := newBoth(plenty)
	b.told(t, "SET a 1 PX 50", "+OK", "RENAME a a", "+OK", "PTTL a", "50", "GET a", "'1'", "SET b 2 PX 70", "+OK", "SET c 3", "+OK", "RENAME c b", "+OK", "PTTL b", "-1", "GET b", "'3'", "EXISTS c", "0")
}

// P18.1: EXPIRE, PEXPIRE, PEXPIREAT: a time from now to 2^40; what is not above now lets the key go at once.
func TestExpire(t *testing.T) {
	ahead := []string{"SET k v", "+OK", "RPUSH l a", "1"}
	for _, key := range []string{"k", "l"} {
		for line, want := range map[string]string{
			"EXPIRE % 1": "1010", "EXPIRE % 0": "", "EXPIRE % -1": "", "EXPIRE % -9223372036854775808": "", "EXPIRE % -9223372036854776": "", "EXPIRE % -9223372036854775": "", "EXPIRE % -18446744073709551": "", "EXPIRE % -18446744073709552": "", "EXPIRE % 1099511627": "1099511627010", "EXPIRE % 1099511628": eTime, "EXPIRE % 9223372036854775807": eTime, "EXPIRE % 18446744073709552": eTime, "EXPIRE % 9223372036854776": eTime,
			"PEXPIRE % 1": "11", "PEXPIRE % 0": "", "PEXPIRE % -1": "", "PEXPIRE % -9223372036854775808": "", "PEXPIRE % 1099511627766": "1099511627776", "PEXPIRE % 1099511627767": eTime, "PEXPIRE % 1099511627776": eTime, "PEXPIRE % 1099511627777": eTime, "PEXPIRE % 9223372036854775807": eTime,
			"PEXPIREAT % 11": "11", "PEXPIREAT % 10": "", "PEXPIREAT % 9": "", "PEXPIREAT % 0": "", "PEXPIREAT % -1": "", "PEXPIREAT % -9223372036854775808": "", "PEXPIREAT % 1099511627776": "1099511627776", "PEXPIREAT % 1099511627777": eTime, "PEXPIREAT % 9223372036854775807": eTime,
		} {
			for _, timed := range []bool{false, true} {
				b := newBoth(plenty)
				b.now = 10
				b.told(t, ahead...)
				left := "-1"
				if timed {
					b.told(t, "PEXPIRE "+key+" 7", "1")
					left = "7"
				}
				args := words(line)
				args[1] = key
				reply := "1"
				switch n, _ := strconv.Atoi(want); {
				case want == eTime:
					reply = "-" + eTime
				case want == "":
					left = "-2"
				default:
					left = strconv.Itoa(n - 10)
				}
				if got := show(b.do(t, args...)); got != reply {
					t.Errorf("%q: %s, want %s", args, got, reply)
				}
				b.told(t, "PTTL "+key, left)
			}
		}
	}
	each(t, ahead, "EXPIRE none 1", "0", "EXPIRE none 0", "0", "EXPIRE none -9223372036854775808", "0", "PEXPIRE none 1", "0", "PEXPIREAT none 5", "0", "PEXPIREAT none 50", "0", "EXPIRE k x", "-"+eInt, "EXPIRE k 1.5", "-"+eInt, `PEXPIRE k ""`, "-"+eInt, "PEXPIREAT k 9223372036854775808", "-"+eInt)
	b := newBoth(plenty)
	b.at(t, 1<<40-1000, "SET k v", "+OK", "EXPIRE k 1", "1", "PTTL k", "1000", "EXPIRE k 2", "-"+eTime, "PTTL k", "1000", "PEXPIRE k 1001", "-"+eTime, "SET k v EX 1", "+OK", "SET k v EX 2", "-"+eTime)
	b.at(t, 1<<40-999, "EXPIRE k 1", "-"+eTime, "PTTL k", "999", "EXPIRE k 0", "1", "EXISTS k", "0")
	b.at(t, 1<<40, "SET k v", "+OK", "EXPIRE k -1099511627", "1", "EXISTS k", "0", "SET k v", "+OK", "PEXPIRE k -1", "1", "EXISTS k", "0")
}

// P18.1: TTL tells thousands of thousandths, rounded up; PTTL thousandths; of all kinds.
func TestLeft(t *testing.T) {
	for now, want := range map[int][2]string{
		0: {"5000", "5"}, 1: {"4999", "5"}, 999: {"4001", "5"}, 1000: {"4000", "4"}, 1001: {"3999", "4"}, 3999: {"1001", "2"}, 4000: {"1000", "1"}, 4001: {"999", "1"}, 4999: {"1", "1"}, 5000: {"-2", "-2"}, math.MaxInt: {"-2", "-2"}, -7: {"5000", "5"},
	} {
		b := newBoth(plenty)
		b.told(t, five()...)
		for _, key := range []string{"str", "hash", "list", "set", "zset"} {
			b.told(t, "PEXPIREAT "+key+" 5000", "1")
		}
		for _, key := range []string{"str", "hash", "list", "set", "zset"} {
			b.at(t, now, "PTTL "+key, want[0], "TTL "+key, want[1])
		}
	}
	each(t, five(), "TTL none", "-2", "PTTL none", "-2", "TTL str", "-1", "PTTL set", "-1")
}

// P18.1: PERSIST takes a time away, and tells whether there was one.
func TestPersist(t *testing.T) {
	b := newBoth(plenty)
	b.told(t, five()...)
	b.told(t, "PERSIST none", "0", "PERSIST str", "0", "PEXPIRE list 5", "1", "PERSIST list", "1", "PERSIST list", "0", "PTTL list", "-1", "PEXPIRE str 5", "1")
	b.at(t, 5, "PERSIST str", "0", "EXISTS str", "0", "LRANGE list 0 -1", "['a' 'b']")
}

// P18.1: where a value is changed, its time stays, of each command that changes one; where it says so, there is none.
func TestTimeStays(t *testing.T) {
	for line, stays := range map[string]bool{
		"APPEND str 1": true, "SETRANGE str 0 1": true, "INCR str": true, "DECR str": true, "INCRBY str 2": true, "DECRBY str 2": true, "GETSET str v": false, "SET str v": false, "SET str v XX": false, "MSET str v": false, "SETNX str v": true, "SET str v NX": true,
		"HSET hash f w": true, "HSETNX hash g w": true, "HINCRBY hash n 1": true, "LPUSH list a": true, "RPUSH list a": true, "LPOP list": true, "RPOP list": true, "LSET list 0 x": true, "LTRIM list 0 0": true, "LREM list 0 a": true,
		"RPOPLPUSH list list": true, "SADD set n": true, "SMOVE set set m": true, "ZADD zset 1 n": true, "ZADD zset 2 m": true, "ZINCRBY zset 1 m": true, "GET str": true, "SUNION set set": true,
	} {
		b := newBoth(plenty)
		b.told(t, five()...)
		key := words(line)[1]
		b.told(t, "PEXPIRE "+key+" 50", "1")
		b.do(t, words(line)...)
		want := "-1"
		if stays {
			want = "50"
		}
		b.told(t, "PTTL "+key, want)
	}
	b := newBoth(plenty)
	b.told(t, "RPUSH a x y", "2", "RPUSH b z", "1", "PEXPIRE a 50", "1", "RPOPLPUSH a b", "'y'", "PTTL a", "50", "PTTL b", "-1", "RPOPLPUSH a c", "'x'", "PTTL a", "-2", "PTTL c", "-1", "RPOPLPUSH b c", "'z'", "PEXPIRE c 70", "1", "RPOPLPUSH b c", "'y'", "PTTL c", "70",
		"SADD s m n", "2", "SADD u o", "1", "PEXPIRE s 50", "1", "PEXPIRE u 60", "1", "SMOVE s u m", "1", "PTTL s", "50", "PTTL u", "60", "SMOVE s v n", "1", "PTTL s", "-2", "PTTL v", "-1",
		"RPUSH one x", "1", "PEXPIRE one 80", "1", "RPOPLPUSH one one", "'x'", "PTTL one", "80", "SADD alone m", "1", "PEXPIRE alone 80", "1", "SMOVE alone alone m", "1", "PTTL alone", "80")
	b.version(t, "RPOPLPUSH of one element from a key to itself", "one", 2)
}

// P18.1: a value that is no string loses its last element: its key is dropped, with its time.
func TestLastElement(t *testing.T) {
	for line, want := range map[string]string{
		"HDEL hash f": "1", "HDEL hash x f f": "1", "LTRIM list 5 9": "+OK", "LTRIM list 1 0": "+OK", "SREM set m": "1", "SPOP set": "'m'", "SMOVE set other m": "1", "ZREM zset m": "1", "ZREMRANGEBYSCORE zset -inf +inf": "1",
	} {
		b := newBoth(plenty)
		b.told(t, five()...)
		key := words(line)[1]
		b.told(t, "PEXPIRE "+key+" 50", "1", line, want, "EXISTS "+key, "0", "TYPE "+key, "+none", "PTTL "+key, "-2", line, map[string]string{"1": "0", "+OK": "+OK", "'m'": "nil"}[want])
	}
	b := newBoth(plenty)
	b.told(t, "RPUSH l a", "1", "LPOP l", "'a'", "EXISTS l", "0", "RPUSH l a", "1", "RPOP l", "'a'", "EXISTS l", "0", "RPUSH l a a", "2", "LREM l 0 a", "2", "EXISTS l", "0", "RPUSH l a", "1", "RPOPLPUSH l m", "'a'", "EXISTS l m", "1", "SET l <0>", "+OK", "EXISTS l", "1", "STRLEN l", "0")
}
