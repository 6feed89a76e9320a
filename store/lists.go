package store

import (
	"slices"

	"intaglio/api"
)

// listDoer is what does a command of lists; nil: it is no such command.
func listDoer(name string) doer {
	switch name {
	case "LPUSH":
		return func(t *task) api.Reply { return t.push(atFront) }
	case "RPUSH":
		return func(t *task) api.Reply { return t.push(atEnd) }
	case "LPOP":
		return func(t *task) api.Reply { return t.pop(0) }
	case "RPOP":
		return func(t *task) api.Reply { return t.pop(-1) }
	case "LLEN":
		return func(t *task) api.Reply { return number(t.first(api.VList).Len()) }
	case "LRANGE":
		return (*task).listRange
	case "LINDEX":
		return (*task).listAt
	case "LSET":
		return (*task).setListAt
	case "LTRIM":
		return (*task).trim
	case "LREM":
		return (*task).remove
	case "RPOPLPUSH":
		return (*task).popPush
	}
	return nil
}

func atFront(l []string, s string) []string { return slices.Insert(l, 0, s) }

func atEnd(l []string, s string) []string { return append(l, s) }

// push puts the words into a list, one by one.
func (t *task) push(put func(l []string, s string) []string) api.Reply {
	v := t.first(api.VList)
	l := v.Items()
	for _, s := range t.words[2:] {
		l = put(l, s)
	}
	v.SetItems(l)
	t.update(t.key(), v)
	return number(v.Len())
}

// placeOf is the place a of n, below 0 from the end; false: there is none.
func placeOf(a, n int) (int, bool) {
	if a < 0 {
		a += n
	}
	if a < 0 || a >= n {
		return 0, false
	}
	return a, true
}

// pop takes the one at a place out of a list.
func (t *task) pop(a int) api.Reply {
	v := t.first(api.VList)
	l := v.Items()
	i, there := placeOf(a, len(l))
	if !there {
		return none()
	}
	s := l[i]
	v.SetItems(slices.Delete(l, i, i+1))
	t.update(t.key(), v)
	return text(s)
}

func (t *task) listRange() api.Reply {
	a, b := t.num(2), t.num(3)
	l := t.first(api.VList).Items()
	from, to := places(a, b, len(l))
	return texts(l[from:to]...)
}

func (t *task) listAt() api.Reply {
	a := t.num(2)
	l := t.first(api.VList).Items()
	i, there := placeOf(a, len(l))
	if !there {
		return none()
	}
	return text(l[i])
}

func (t *task) setListAt() api.Reply {
	a := t.num(2)
	v, there := t.get(api.VList, t.key())
	if !there {
		panic(noKey)
	}
	l := v.Items()
	i, there := placeOf(a, len(l))
	if !there {
		panic(badPlace)
	}
	l[i] = t.words[3]
	v.SetItems(l)
	t.update(t.key(), v)
	return done()
}

func (t *task) trim() api.Reply {
	a, b := t.num(2), t.num(3)
	v := t.first(api.VList)
	l := v.Items()
	from, to := places(a, b, len(l))
	v.SetItems(l[from:to])
	t.update(t.key(), v)
	return done()
}

func (t *task) remove() api.Reply {
	n := t.num(2)
	v := t.first(api.VList)
	l := without(v.Items(), t.words[3], n)
	gone := v.Len() - len(l)
	v.SetItems(l)
	t.update(t.key(), v)
	return number(gone)
}

// without is a list without those that are s: of n above 0 the first n, below 0 the last -n, of 0 all.
func without(l []string, s string, n int) []string {
	if n < 0 {
		slices.Reverse(l)
		rest := without(l, s, -max(n, -len(l)))
		slices.Reverse(rest)
		return rest
	}
	var rest []string
	gone := 0
	for _, x := range l {
		if x == s && (n == 0 || gone < n) {
			gone++
		} else {
			rest = append(rest, x)
		}
	}
	return rest
}

func (t *task) popPush() api.Reply {
	v := t.first(api.VList)
	l := v.Items()
	if len(l) == 0 {
		return none()
	}
	to := v // of one key both are one: else what is popped off it would stand there still
	if t.words[2] != t.key() {
		to = t.like(api.VList, t.words[2])
	}
	last := len(l) - 1
	v.SetItems(l[:last])
	to.SetItems(atFront(to.Items(), l[last]))
	t.update(t.key(), v)
	t.update(t.words[2], to)
	return text(l[last])
}
