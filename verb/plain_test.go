package verb_test

import (
	"strings"

	"intaglio/verb"
)

// known is all commands by the chapter's table.
func known() []verb.Spec {
	none, one, two, all, pairs := verb.Place{}, verb.Place{First: 1, Last: 1, Step: 1}, verb.Place{First: 1, Last: 2, Step: 1}, verb.Place{First: 1, Last: -1, Step: 1}, verb.Place{First: 1, Last: -1, Step: 2}
	rows := []struct {
		names      string
		least      int
		most       int
		place      verb.Place
		writes     bool
		odd, even  bool
		howManyAre int
	}{
		{"PING", 1, 2, none, false, false, false, 1},
		{"ECHO KEYS", 2, 2, none, false, false, false, 2},
		{"DBSIZE MULTI EXEC DISCARD UNWATCH", 1, 1, none, false, false, false, 5},
		{"FLUSHALL", 1, 1, none, true, false, false, 1},
		{"WATCH EXISTS MGET SINTER SUNION SDIFF", 2, 40, all, false, false, false, 6},
		{"DEL", 2, 40, all, true, false, false, 1},
		{"GET STRLEN TYPE TTL PTTL HLEN HGETALL HKEYS HVALS LLEN SCARD SMEMBERS SRANDMEMBER ZCARD", 2, 2, one, false, false, false, 14},
		{"INCR DECR PERSIST LPOP RPOP SPOP", 2, 2, one, true, false, false, 6},
		{"SET", 3, 7, one, true, false, false, 1},
		{"GETSET SETNX APPEND INCRBY DECRBY EXPIRE PEXPIRE PEXPIREAT", 3, 3, one, true, false, false, 8},
		{"RENAME RPOPLPUSH", 3, 3, two, true, false, false, 2},
		{"MSET", 3, 40, pairs, true, true, false, 1},
		{"HGET HEXISTS LINDEX SISMEMBER ZSCORE ZRANK ZREVRANK", 3, 3, one, false, false, false, 7},
		{"HMGET", 3, 40, one, false, false, false, 1},
		{"HDEL LPUSH RPUSH SADD SREM ZREM", 3, 40, one, true, false, false, 6},
		{"GETRANGE LRANGE ZREVRANGE ZRANGEBYSCORE ZCOUNT", 4, 4, one, false, false, false, 5},
		{"SETRANGE HSETNX HINCRBY LSET LTRIM LREM ZINCRBY ZREMRANGEBYSCORE", 4, 4, one, true, false, false, 8},
		{"SMOVE", 4, 4, two, true, false, false, 1},
		{"ZRANGE", 4, 5, one, false, false, false, 1},
		{"HSET ZADD", 4, 40, one, true, false, true, 2},
	}
	var out []verb.Spec
	for _, r := range rows {
		names := strings.Fields(r.names)
		if len(names) != r.howManyAre {
			panic("the test is wrong: " + r.names)
		}
		for _, name := range names {
			out = append(out, verb.Spec{Place: r.place, Name: name, Min: r.least, Max: r.most, Writes: r.writes, Odd: r.odd, Even: r.even})
		}
	}
	return out
}

// letters are ways to write a name.
func letters(name string) []string {
	out := []string{name, strings.ToLower(name), strings.ToLower(name[:1]) + name[1:], name[:1] + strings.ToLower(name[1:])}
	var b strings.Builder
	for i := range len(name) {
		if i%2 == 0 {
			b.WriteString(strings.ToLower(name[i : i+1]))
		} else {
			b.WriteString(name[i : i+1])
		}
	}
	return append(out, b.String())
}

// long is a text of so many bytes.
func long(n int) string { return strings.Repeat("x", n) }

// plainKeys is the words that are keys, by the chapter's words.
func plainKeys(s verb.Spec, args []string) []string {
	var out []string
	for i, word := range args {
		last := s.Place.Last
		if last == -1 {
			last = len(args) - 1
		}
		if s.Place.First > 0 && i >= s.Place.First && i <= last && (i-s.Place.First)%s.Place.Step == 0 {
			out = append(out, word)
		}
	}
	return out
}

// plainCheck is what is wrong with the words of a command, by the chapter's words.
func plainCheck(s verb.Spec, args []string) string {
	n := len(args)
	if n < s.Min || n > s.Max || s.Odd && n%2 != 1 || s.Even && n%2 != 0 {
		return "ERR wrong number of arguments"
	}
	for _, word := range args {
		if len(word) > 512 {
			return "ERR too long"
		}
	}
	for _, key := range plainKeys(s, args) {
		if len(key) == 0 || len(key) > 64 {
			return "ERR bad key"
		}
	}
	return ""
}

// plainMatch is Match by the chapter's words, by all ways in which a pattern may be laid over a text.
func plainMatch(pattern, s string) bool {
	if pattern == "" {
		return s == ""
	}
	if pattern[0] == '*' {
		return plainMatch(pattern[1:], s) || s != "" && plainMatch(pattern, s[1:])
	}
	if s == "" {
		return false
	}
	n, ok := 1, pattern[0] == s[0]
	switch pattern[0] {
	case '?':
		ok = true
	case '\\':
		if len(pattern) > 1 {
			n, ok = 2, pattern[1] == s[0]
		}
	case '[':
		first := 1
		if len(pattern) > 1 && pattern[1] == '^' {
			first = 2
		}
		for i := first + 1; i < len(pattern); i++ {
			if pattern[i] == ']' {
				n, ok = i+1, plainBetween(pattern[first:i])[s[0]] != (first == 2)
				break
			}
		}
	}
	return ok && plainMatch(pattern[n:], s[1:])
}

// plainBetween is which bytes the bytes between [ and ] tell.
func plainBetween(between string) [256]bool {
	var out [256]bool
	for i := 0; i < len(between); i++ {
		if i+2 < len(between) && between[i+1] == '-' {
			for c := range 256 {
				if c >= int(between[i]) && c <= int(between[i+2]) {
					out[c] = true
				}
			}
			i += 2
		} else {
			out[between[i]] = true
		}
	}
	return out
}
