package verb

import "intaglio/api"

// reads is the spec of a command of so many words, that changes nothing; the word behind its name is a key.
func reads(name string, least, most int) Spec {
	return Spec{Place: Place{First: 1, Last: 1, Step: 1}, Name: name, Min: least, Max: most}
}

// writes is the same of a command that may change something.
func writes(name string, least, most int) Spec {
	s := reads(name, least, most)
	s.Writes = true
	return s
}

// keys lets a command's keys stand from the word behind its name up to another one, each step-th.
func (s Spec) keys(last, step int) Spec {
	s.Last, s.Step = last, step
	return s
}

// keyless leaves a command no keys.
func (s Spec) keyless() Spec {
	s.Place = Place{}
	return s
}

// odd lets a command have none but an odd number of words.
func (s Spec) odd() Spec {
	s.Odd = true
	return s
}

// even lets a command have none but an even number of words.
func (s Spec) even() Spec {
	s.Even = true
	return s
}

// spec is the spec of a name in capital letters; zero: no command has it.
func spec(name string) Spec {
	const most = api.MaxArgs
	switch name {
	case "PING":
		return reads(name, 1, 2).keyless()
	case "ECHO", "KEYS":
		return reads(name, 2, 2).keyless()
	case "DBSIZE", "MULTI", "EXEC", "DISCARD", "UNWATCH":
		return reads(name, 1, 1).keyless()
	case "FLUSHALL":
		return writes(name, 1, 1).keyless()
	case "WATCH", "EXISTS", "MGET", "SINTER", "SUNION", "SDIFF":
		return reads(name, 2, most).keys(-1, 1)
	case "DEL":
		return writes(name, 2, most).keys(-1, 1)
	case "GET", "STRLEN", "TYPE", "TTL", "PTTL", "HLEN", "HGETALL", "HKEYS", "HVALS", "LLEN", "SCARD", "SMEMBERS", "SRANDMEMBER", "ZCARD":
		return reads(name, 2, 2)
	case "INCR", "DECR", "PERSIST", "LPOP", "RPOP", "SPOP":
		return writes(name, 2, 2)
	case "SET":
		return writes(name, 3, 7)
	case "GETSET", "SETNX", "APPEND", "INCRBY", "DECRBY", "EXPIRE", "PEXPIRE", "PEXPIREAT":
		return writes(name, 3, 3)
	case "RENAME", "RPOPLPUSH":
		return writes(name, 3, 3).keys(2, 1)
	case "MSET":
		return writes(name, 3, most).keys(-1, 2).odd()
	case "HGET", "HEXISTS", "LINDEX", "SISMEMBER", "ZSCORE", "ZRANK", "ZREVRANK":
		return reads(name, 3, 3)
	case "HMGET":
		return reads(name, 3, most)
	case "HDEL", "LPUSH", "RPUSH", "SADD", "SREM", "ZREM":
		return writes(name, 3, most)
	case "GETRANGE", "LRANGE", "ZREVRANGE", "ZRANGEBYSCORE", "ZCOUNT":
		return reads(name, 4, 4)
	case "SETRANGE", "HSETNX", "HINCRBY", "LSET", "LTRIM", "LREM", "ZINCRBY", "ZREMRANGEBYSCORE":
		return writes(name, 4, 4)
	case "SMOVE":
		return writes(name, 4, 4).keys(2, 1)
	case "ZRANGE":
		return reads(name, 4, 5)
	case "HSET", "ZADD":
		return writes(name, 4, most).even()
	}
	return Spec{}
}
