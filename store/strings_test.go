package store_test

import "testing"

// P18.1: GET, STRLEN, SETNX, GETSET.
func TestGet(t *testing.T) {
	each(t, []string{"SET k text", "+OK", "SET e <0>", "+OK", "RPUSH l a", "1"}, "GET none", "nil", "GET k", "'text'", "GET e", "''", "STRLEN none", "0", "STRLEN k", "4", "STRLEN e", "0",
		"SETNX none v", "1", "SETNX k v", "0", "SETNX e v", "0", "SETNX l v", "0", "GETSET none v", "nil", "GETSET k v", "'text'", "GETSET e v", "''", "GETSET l v", "-"+eKind)
	b := newBoth(plenty)
	b.told(t, "SETNX k a", "1", "GET k", "'a'", "SETNX k b", "0", "GET k", "'a'", "PEXPIRE k 5", "1", "GETSET k c", "'a'", "GET k", "'c'", "PTTL k", "-1", "GETSET n <0>", "nil", "GET n", "''", "RPUSH l a", "1", "SETNX l v", "0", "LLEN l", "1")
}

// P18.1: SET puts a text in the place of a value of whatever kind, with a time or without.
func TestSet(t *testing.T) {
	for _, key := range []string{"none", "str", "hash", "list", "set", "zset"} {
		there := key != "none"
		for _, timed := range []bool{false, true} {
			for line, left := range map[string]string{
				"": "-1", "EX 1": "1000", "PX 1": "1", "ex 1099511627": "1099511627000", "pX 1099511627766": "1099511627766", "XX": "-1", "nx": "-1", "NX EX 2": "2000", "eX 2 nX": "2000", "xx px 3": "3", "PX 3 XX": "3",
			} {
				b := newBoth(plenty)
				b.now = 10
				b.told(t, five()...)
				if timed && there {
					b.told(t, "PEXPIRE "+key+" 70", "1")
				}
				args := append([]string{"SET", key, "new"}, words(line)...)
				does := true
				for _, w := range args[3:] {
					does = does && !(there && (w == "NX" || w == "nx" || w == "nX")) && !(!there && (w == "XX" || w == "xx"))
				}
				got := show(b.do(t, args...))
				if does && got != "+OK" || !does && got != "nil" {
					t.Errorf("%q: %s", args, got)
				}
				if does {
					b.told(t, "GET "+key, "'new'", "PTTL "+key, left)
				}
			}
		}
	}
	b := newBoth(plenty)
	b.told(t, "SET k <0>", "+OK", "EXISTS k", "1", "GET k", "''", "SET k <512>", "+OK", "STRLEN k", "512", "SET k NX", "+OK", "GET k", "'NX'", "SET EX PX EX 5", "+OK", "GET EX", "'PX'")
}

// P18.1: of SET's words each stands once, not both of a pair, and a time with its number.
func TestSetErrors(t *testing.T) {
	for _, ahead := range [][]string{nil, {"SET k 5", "+OK"}, {"RPUSH k a", "1"}} {
		each(t, ahead,
			"SET k v FOO", "-"+eSyntax, "SET k v <0>", "-"+eSyntax, "SET k v NXX", "-"+eSyntax, "SET k v N", "-"+eSyntax, "SET k v KEEPTTL", "-"+eSyntax, "SET k v GET", "-"+eSyntax, "SET k v 5", "-"+eSyntax, "SET k v NX NX", "-"+eSyntax, "SET k v XX xx", "-"+eSyntax,
			"SET k v NX XX", "-"+eSyntax, "SET k v XX NX", "-"+eSyntax, "SET k v XX EX 5 NX", "-"+eSyntax, "SET k v EX", "-"+eSyntax, "SET k v px", "-"+eSyntax, "SET k v NX EX", "-"+eSyntax, "SET k v EX 5 EX", "-"+eSyntax, "SET k v EX 5 PX", "-"+eSyntax, "SET k v EX 5 EX 5", "-"+eSyntax,
			"SET k v PX 5 PX 6", "-"+eSyntax, "SET k v EX 5 PX 5", "-"+eSyntax, "SET k v PX 5 EX 5", "-"+eSyntax, "SET k v EX 5 FOO", "-"+eSyntax, "SET k v EX 5 6", "-"+eSyntax,
			"SET k v EX a", "-"+eInt, "SET k v PX 1.5", "-"+eInt, "SET k v EX <0>", "-"+eInt, "SET k v EX 05", "-"+eInt, "SET k v EX NX", "-"+eInt, "SET k v PX EX 5", "-"+eInt, "SET k v EX 9223372036854775808", "-"+eInt,
			"SET k v EX 0", "-"+eTime, "SET k v PX 0", "-"+eTime, "SET k v EX -1", "-"+eTime, "SET k v PX -9223372036854775808", "-"+eTime, "SET k v EX -9223372036854775808", "-"+eTime, "SET k v EX 1099511628", "-"+eTime, "SET k v PX 1099511627777", "-"+eTime, "SET k v PX 1099511627767", "-"+eTime,
			"SET k v EX 9223372036854775807", "-"+eTime, "SET k v EX 9223372036854776", "-"+eTime, "SET k v EX 18446744073709552", "-"+eTime, "SET k v PX 9223372036854775807", "-"+eTime, "SET k v NX PX 0", "-"+eTime, "SET k v XX EX 0", "-"+eTime,
			"SET k v EX 1 NX XX", "-"+eSyntax, "SET k v NX EX 1 PX", "-"+eSyntax)
	}
}

// P18.1: MGET tells no text of what is no string; MSET puts texts by keys of whatever kind, in order, without times.
func TestMany(t *testing.T) {
	b := newBoth(plenty)
	b.told(t, five()...)
	b.told(t, "MGET str none list str", "['5' nil nil '5']", "MGET hash", "[nil]", "MGET set zset hash none", "[nil nil nil nil]", "PEXPIRE str 5", "1", "PEXPIRE list 5", "1",
		"MSET str a list b new <0>", "+OK", "MGET str list new", "['a' 'b' '']", "TTL str", "-1", "TTL list", "-1", "MSET k 1 k 2 k 3", "+OK", "GET k", "'3'", "MSET a", "-ERR wrong number of arguments")
}

// P18.1: APPEND, also to none and of nothing.
func TestAppend(t *testing.T) {
	b := newBoth(plenty)
	b.told(t, "APPEND k ab", "2", "APPEND k cd", "4", "GET k", "'abcd'", "APPEND k <0>", "4", "APPEND none <0>", "0", "EXISTS none", "1", "TYPE none", "+string", "APPEND none <512>", "512", "APPEND none <0>", "512", "APPEND none x", "-"+eLong, "STRLEN none", "512")
}

// P18.1: SETRANGE puts bytes at a place, and bytes 0 where there were none.
func TestSetRange(t *testing.T) {
	each(t, []string{"SET k abcde", "+OK"}, "SETRANGE k 0 xy", "5", "SETRANGE k 3 xyz", "6", "SETRANGE k 5 x", "6", "SETRANGE k 7 x", "8", "SETRANGE none 0 x", "1", "SETRANGE none 3 x", "4", "SETRANGE k 0 <0>", "5", "SETRANGE k 400 <0>", "5",
		"SETRANGE none 5 <0>", "0", "SETRANGE k -1 x", "-"+ePlace, "SETRANGE k 513 x", "-"+ePlace, "SETRANGE none -1 <0>", "-"+ePlace, "SETRANGE k 513 <0>", "-"+ePlace, "SETRANGE k -9223372036854775808 x", "-"+ePlace, "SETRANGE k 9223372036854775807 x", "-"+ePlace, "SETRANGE k 512 <0>", "5")
	b := newBoth(plenty)
	b.told(t, "SETRANGE k 2 ab", "4", "GET k", "'\x00\x00ab'", "SETRANGE k 1 xy", "4", "GET k", "'\x00xyb'", "SETRANGE k 6 z", "7", "GET k", "'\x00xyb\x00\x00z'", "SETRANGE none 5 <0>", "0", "EXISTS none", "0", "SETRANGE n 511 a", "512", "STRLEN n", "512")
}

// P18.1: GETRANGE at places from the front and from the end, beyond, and crossed.
func TestGetRange(t *testing.T) {
	each(t, []string{"SET k abcde", "+OK", "SET e <0>", "+OK"},
		"GETRANGE k 0 -1", "'abcde'", "GETRANGE k 0 0", "'a'", "GETRANGE k 1 3", "'bcd'", "GETRANGE k 4 4", "'e'", "GETRANGE k 5 5", "''", "GETRANGE k 4 9", "'e'", "GETRANGE k 5 9", "''", "GETRANGE k -5 -1", "'abcde'", "GETRANGE k -9 -1", "'abcde'", "GETRANGE k -9 -5", "'a'", "GETRANGE k -9 -6", "''",
		"GETRANGE k 0 -5", "'a'", "GETRANGE k 0 -6", "''", "GETRANGE k 3 1", "''", "GETRANGE k -1 -3", "''", "GETRANGE k -3 -2", "'cd'", "GETRANGE k -2 9", "'de'", "GETRANGE k -9223372036854775808 9223372036854775807", "'abcde'", "GETRANGE k 9223372036854775807 -9223372036854775808", "''", "GETRANGE k 0 9223372036854775807", "'abcde'", "GETRANGE k 2 -1", "'cde'", "GETRANGE k 2 -3", "'c'", "GETRANGE k 2 -4", "''",
		"GETRANGE e 0 -1", "''", "GETRANGE e 0 0", "''", "GETRANGE none 0 -1", "''", "GETRANGE none -1 -1", "''", "GETRANGE none 0 9", "''")
}

// P18.1: INCR, DECR, INCRBY, DECRBY: a number in its one form, of 64 bits; an empty key is 0.
func TestCount(t *testing.T) {
	each(t, []string{"SET k 5", "+OK", "SET e <0>", "+OK"}, "INCR k", "6", "DECR k", "4", "INCRBY k 7", "12", "DECRBY k 7", "-2", "INCRBY k -7", "-2", "DECRBY k -7", "12", "INCRBY k 0", "5", "INCR none", "1", "DECR none", "-1", "INCRBY none 9", "9", "DECRBY none 9", "-9",
		"INCR e", "1", "DECR e", "-1", "INCRBY e 0", "0", "INCRBY none -9223372036854775808", "-9223372036854775808", "DECRBY none 9223372036854775807", "-9223372036854775807", "DECRBY none -9223372036854775808", "-"+eOver, "DECRBY k -9223372036854775807", "-"+eOver)
	for _, s := range []string{"a", "05", "1.5", "+1", "-0", "-", "0x1", "9223372036854775808", "-9223372036854775809", "1e3", "<512>"} {
		each(t, []string{"SET k " + s, "+OK"}, "INCR k", "-"+eInt, "DECR k", "-"+eInt, "INCRBY k 0", "-"+eInt, "DECRBY k -9223372036854775808", "-"+eInt, "INCRBY k 9223372036854775807", "-"+eInt)
	}
	for s, lines := range map[string][]string{
		"9223372036854775807":  {"INCR k", "-" + eOver, "INCRBY k 1", "-" + eOver, "INCRBY k 9223372036854775807", "-" + eOver, "DECR k", "9223372036854775806", "DECRBY k -1", "-" + eOver, "INCRBY k -9223372036854775808", "-1", "DECRBY k 9223372036854775807", "0", "DECRBY k -9223372036854775808", "-" + eOver, "INCRBY k 0", "9223372036854775807"},
		"-9223372036854775808": {"DECR k", "-" + eOver, "DECRBY k 1", "-" + eOver, "INCRBY k -1", "-" + eOver, "INCRBY k -9223372036854775808", "-" + eOver, "INCR k", "-9223372036854775807", "INCRBY k 9223372036854775807", "-1", "DECRBY k -9223372036854775807", "-1", "DECRBY k -9223372036854775808", "-" + eOver, "DECRBY k 0", "-9223372036854775808"},
		"-1":                   {"DECRBY k -9223372036854775808", "-" + eOver, "INCRBY k -9223372036854775808", "-" + eOver, "INCRBY k -9223372036854775807", "-9223372036854775808", "DECRBY k 9223372036854775807", "-9223372036854775808", "DECRBY k -9223372036854775807", "9223372036854775806"},
		"1":                    {"INCRBY k 9223372036854775807", "-" + eOver, "INCRBY k 9223372036854775806", "9223372036854775807", "DECRBY k -9223372036854775806", "9223372036854775807", "DECRBY k -9223372036854775807", "-" + eOver},
	} {
		each(t, []string{"SET k " + s, "+OK"}, lines...)
	}
	b := newBoth(plenty)
	b.told(t, "INCR k", "1", "GET k", "'1'", "DECRBY k 11", "-10", "GET k", "'-10'", "APPEND k 0", "4", "INCR k", "-99", "SET k a", "+OK", "INCR k", "-"+eInt, "GET k", "'a'")
}
