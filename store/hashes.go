package store

import (
	"intaglio/api"
	"intaglio/verb"
)

// hashDoer is what does a command of hashes; nil: it is no such command.
func hashDoer(name string) doer {
	switch name {
	case "HSET":
		return (*task).setFields
	case "HSETNX":
		return (*task).setNewField
	case "HGET":
		return (*task).getField
	case "HMGET":
		return (*task).getFields
	case "HEXISTS":
		return (*task).hasField
	case "HDEL":
		return (*task).cutFields
	case "HLEN":
		return func(t *task) api.Reply { return number(t.first(api.VHash).Len()) }
	case "HGETALL":
		return func(t *task) api.Reply {
			return t.pairs(func(p api.Pair) []string { return []string{p.Field, p.Text} })
		}
	case "HKEYS":
		return func(t *task) api.Reply { return t.pairs(func(p api.Pair) []string { return []string{p.Field} }) }
	case "HVALS":
		return func(t *task) api.Reply { return t.pairs(func(p api.Pair) []string { return []string{p.Text} }) }
	case "HINCRBY":
		return (*task).countField
	}
	return nil
}

func (t *task) setFields() api.Reply {
	v := t.first(api.VHash)
	n := 0
	for i := 2; i < len(t.words); i += 2 {
		if v.SetField(t.words[i], t.words[i+1]) {
			n++
		}
	}
	t.update(t.key(), v)
	return number(n)
}

func (t *task) setNewField() api.Reply {
	v := t.first(api.VHash)
	_, there := v.Field(t.words[2])
	if !there {
		v.SetField(t.words[2], t.words[3])
		t.update(t.key(), v)
	}
	return yes(!there)
}

func (t *task) getField() api.Reply { return textIf(t.first(api.VHash).Field(t.words[2])) }

func (t *task) getFields() api.Reply {
	v := t.first(api.VHash)
	var l []api.Reply
	for _, f := range t.words[2:] {
		l = append(l, textIf(v.Field(f)))
	}
	return list(l...)
}

func (t *task) hasField() api.Reply {
	_, there := t.first(api.VHash).Field(t.words[2])
	return yes(there)
}

func (t *task) cutFields() api.Reply {
	v := t.first(api.VHash)
	n := counted(t.words[2:], v.CutField)
	t.update(t.key(), v)
	return number(n)
}

// pairs is what a hash's pairs have, by rising fields.
func (t *task) pairs(has func(p api.Pair) []string) api.Reply {
	var l []string
	for _, p := range t.first(api.VHash).Plain().Pairs {
		l = append(l, has(p)...)
	}
	return texts(l...)
}

func (t *task) countField() api.Reply {
	f, by := t.words[2], t.num(3)
	v := t.first(api.VHash)
	s, _ := v.Field(f)
	total := plus(s, by)
	v.SetField(f, verb.Text(total))
	t.update(t.key(), v)
	return number(total)
}
