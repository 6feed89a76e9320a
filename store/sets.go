package store

import (
	"slices"

	"intaglio/api"
	"intaglio/value"
)

// setDoer is what does a command of sets; nil: it is no such command.
func setDoer(name string) doer {
	switch name {
	case "SADD":
		return (*task).add
	case "SREM":
		return (*task).cut
	case "SISMEMBER":
		return func(t *task) api.Reply { return yes(t.first(api.VSet).Has(t.words[2])) }
	case "SCARD":
		return func(t *task) api.Reply { return number(t.first(api.VSet).Len()) }
	case "SMEMBERS":
		return func(t *task) api.Reply { return texts(t.first(api.VSet).Items()...) }
	case "SINTER":
		return func(t *task) api.Reply { return t.join(inAll) }
	case "SUNION":
		return func(t *task) api.Reply { return t.join(inOne) }
	case "SDIFF":
		return func(t *task) api.Reply { return t.join(inFirst) }
	case "SRANDMEMBER":
		return (*task).drawn
	case "SPOP":
		return (*task).popDrawn
	case "SMOVE":
		return (*task).move
	}
	return nil
}

func (t *task) add() api.Reply {
	v := t.first(api.VSet)
	n := counted(t.words[2:], v.Add)
	t.update(t.key(), v)
	return number(n)
}

func (t *task) cut() api.Reply {
	v := t.first(api.VSet)
	n := counted(t.words[2:], v.Cut)
	t.update(t.key(), v)
	return number(n)
}

// of is a member, in a set that may have it.
func of(m string) func(v *value.Value) bool { return func(v *value.Value) bool { return v.Has(m) } }

// inAll tells whether a member is in all sets.
func inAll(m string, sets []*value.Value) bool {
	return !slices.ContainsFunc(sets, func(v *value.Value) bool { return !v.Has(m) })
}

// inOne tells whether a member is in one of the sets.
func inOne(m string, sets []*value.Value) bool { return slices.ContainsFunc(sets, of(m)) }

// inFirst tells whether a member is in the first set, and in no other one.
func inFirst(m string, sets []*value.Value) bool {
	return sets[0].Has(m) && !slices.ContainsFunc(sets[1:], of(m))
}

// join is those members of all sets that are to be told, rising.
func (t *task) join(told func(m string, sets []*value.Value) bool) api.Reply {
	var sets []*value.Value
	for _, key := range t.words[1:] {
		sets = append(sets, t.like(api.VSet, key))
	}
	all := value.New(api.VSet)
	for _, v := range sets {
		for _, m := range v.Items() {
			if told(m, sets) {
				all.Add(m)
			}
		}
	}
	return texts(all.Items()...)
}

// chosen is the member of a set that is drawn; false: the set has none.
func (t *task) chosen(v *value.Value) (string, bool) {
	l := v.Items()
	if len(l) == 0 {
		return "", false
	}
	return l[uint64(t.draw)%uint64(len(l))], true
}

func (t *task) drawn() api.Reply { return textIf(t.chosen(t.first(api.VSet))) }

func (t *task) popDrawn() api.Reply {
	v := t.first(api.VSet)
	m, there := t.chosen(v)
	v.Cut(m)
	t.update(t.key(), v)
	return textIf(m, there)
}

func (t *task) move() api.Reply {
	from, to, m := t.first(api.VSet), t.like(api.VSet, t.words[2]), t.words[3]
	there := from.Has(m)
	if there && t.words[2] != t.key() {
		from.Cut(m)
		to.Add(m)
		t.update(t.key(), from)
		t.update(t.words[2], to)
	}
	return yes(there)
}
