package store

import (
	"intaglio/api"
	"intaglio/verb"
)

// perSecond is how many of a time's parts a second has.
const perSecond = 1000

// keyDoer is what does a command of keys of any kind, or of none; nil: it is no such command.
func keyDoer(name string) doer {
	switch name {
	case "PING", "ECHO":
		return (*task).echo
	case "DBSIZE":
		return (*task).countKeys
	case "KEYS":
		return (*task).matching
	case "FLUSHALL":
		return (*task).dropAll
	case "EXISTS":
		return (*task).exists
	case "DEL":
		return (*task).del
	case "TYPE":
		return (*task).kind
	case "RENAME":
		return (*task).rename
	}
	return timeDoer(name)
}

// timeDoer is what does a command of the times at which keys go; nil: it is no such command.
func timeDoer(name string) doer {
	switch name {
	case "EXPIRE":
		return func(t *task) api.Reply { return t.expire(t.later(t.num(2), perSecond)) }
	case "PEXPIRE":
		return func(t *task) api.Reply { return t.expire(t.later(t.num(2), 1)) }
	case "PEXPIREAT":
		return func(t *task) api.Reply { return t.expire(timely(t.num(2))) }
	case "TTL":
		return func(t *task) api.Reply { return t.left(perSecond) }
	case "PTTL":
		return func(t *task) api.Reply { return t.left(1) }
	case "PERSIST":
		return (*task).persist
	}
	return nil
}

func (t *task) echo() api.Reply {
	if len(t.words) == 1 {
		return simple("PONG")
	}
	return text(t.words[1])
}

func (t *task) countKeys() api.Reply { return number(t.space.Len()) }

func (t *task) matching() api.Reply {
	var l []string
	for _, key := range t.space.Keys() {
		if verb.Match(t.words[1], key) {
			l = append(l, key)
		}
	}
	return texts(l...)
}

func (t *task) dropAll() api.Reply {
	for _, key := range t.space.Keys() {
		t.drop(key)
	}
	return done()
}

func (t *task) exists() api.Reply { return number(counted(t.words[1:], t.has)) }

func (t *task) del() api.Reply { return number(counted(t.words[1:], t.drop)) }

func (t *task) kind() api.Reply {
	switch t.look(t.key()).value.Kind() {
	case api.VString:
		return simple("string")
	case api.VHash:
		return simple("hash")
	case api.VList:
		return simple("list")
	case api.VSet:
		return simple("set")
	case api.VZset:
		return simple("zset")
	}
	return simple("none")
}

func (t *task) rename() api.Reply {
	from, to := t.words[1], t.words[2]
	s := t.look(from)
	if !t.drop(from) {
		panic(noKey)
	}
	t.change(to, s)
	return done()
}

// timely is a time at which a key may go.
func timely(at int) int {
	if at > api.MaxNum {
		panic(badTime)
	}
	return at
}

// later is the time that is n later, in units of so many parts.
func (t *task) later(n, unit int) int {
	if n > api.MaxNum/unit {
		panic(badTime)
	}
	// Whatever is so far below 0 lies ahead of all times; more of it would go round.
	return timely(t.now + max(n, -api.MaxNum)*unit)
}

// expire lets the key go at a time.
func (t *task) expire(at int) api.Reply {
	s := t.look(t.key())
	if s.value == nil {
		return yes(false)
	}
	if at <= t.now {
		t.drop(t.key())
	} else {
		t.change(t.key(), standing{s.value, at})
	}
	return yes(true)
}

// left is in how many units of so many parts the key goes.
func (t *task) left(unit int) api.Reply {
	at, there := t.space.At(t.key())
	switch {
	case !there:
		return number(-2)
	case at == 0:
		return number(-1)
	}
	return number((at - t.now + unit - 1) / unit)
}

func (t *task) persist() api.Reply {
	s := t.look(t.key())
	if s.at == 0 {
		return yes(false)
	}
	t.change(t.key(), standing{value: s.value})
	return yes(true)
}
