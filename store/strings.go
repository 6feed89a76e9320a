package store

import (
	"math"

	"intaglio/api"
	"intaglio/value"
	"intaglio/verb"
)

// stringDoer is what does a command of strings; nil: it is no such command.
func stringDoer(name string) doer {
	switch name {
	case "GET":
		return (*task).getText
	case "STRLEN":
		return func(t *task) api.Reply { return number(t.first(api.VString).Len()) }
	case "SET":
		return (*task).set
	case "SETNX":
		return (*task).setNew
	case "GETSET":
		return (*task).getSet
	case "MGET":
		return (*task).getMany
	case "MSET":
		return (*task).setMany
	case "APPEND":
		return (*task).appendText
	case "SETRANGE":
		return (*task).setRange
	case "GETRANGE":
		return (*task).getRange
	case "INCR":
		return func(t *task) api.Reply { return t.count(plus, 1) }
	case "DECR":
		return func(t *task) api.Reply { return t.count(minus, 1) }
	case "INCRBY":
		return func(t *task) api.Reply { return t.count(plus, t.num(2)) }
	case "DECRBY":
		return func(t *task) api.Reply { return t.count(minus, t.num(2)) }
	}
	return nil
}

// putText lets a text stand by a key, that goes at a time.
func (t *task) putText(key, s string, at int) {
	v := value.New(api.VString)
	v.SetText(s)
	t.put(key, v, at)
}

func (t *task) getText() api.Reply {
	v, there := t.get(api.VString, t.key())
	return textIf(v.Text(), there)
}

// terms is under which terms SET puts its text.
type terms struct {
	absent, present bool // only where the key is not there; only where it is
	at              int  // when the key goes; 0: never
}

// terms is what the words behind the text say.
func (t *task) terms() terms {
	var c terms
	for i := 3; i < len(t.words); i++ {
		word, free := verb.Upper(t.words[i]), !c.absent && !c.present
		switch {
		case word == "NX" && free:
			c.absent = true
		case word == "XX" && free:
			c.present = true
		case (word == "EX" || word == "PX") && c.at == 0 && i+1 < len(t.words):
			i++
			c.at = t.lifetime(i, word == "EX")
		default:
			panic(badWord)
		}
	}
	return c
}

// lifetime is the time at which a key goes that is to stay as long as a word says.
func (t *task) lifetime(word int, seconds bool) int {
	n, unit := t.num(word), 1
	if n < 1 {
		panic(badTime)
	}
	if seconds {
		unit = perSecond
	}
	return t.later(n, unit)
}

func (t *task) set() api.Reply {
	c, there := t.terms(), t.has(t.key())
	if c.absent && there || c.present && !there {
		return none()
	}
	t.putText(t.key(), t.words[2], c.at)
	return done()
}

func (t *task) setNew() api.Reply {
	there := t.has(t.key())
	if !there {
		t.putText(t.key(), t.words[2], 0)
	}
	return yes(!there)
}

func (t *task) getSet() api.Reply {
	out := t.getText()
	t.putText(t.key(), t.words[2], 0)
	return out
}

func (t *task) getMany() api.Reply {
	var l []api.Reply
	for _, key := range t.words[1:] {
		v := t.look(key).value
		l = append(l, textIf(v.Text(), v.Kind() == api.VString))
	}
	return list(l...)
}

func (t *task) setMany() api.Reply {
	for i := 1; i < len(t.words); i += 2 {
		t.putText(t.words[i], t.words[i+1], 0)
	}
	return done()
}

func (t *task) appendText() api.Reply {
	v := t.first(api.VString)
	v.SetText(v.Text() + t.words[2])
	t.update(t.key(), v)
	return number(v.Len())
}

func (t *task) setRange() api.Reply {
	from := t.num(2)
	v := t.first(api.VString)
	if from < 0 || from > api.MaxText {
		panic(badPlace)
	}
	if by := t.words[3]; by != "" {
		b := make([]byte, max(v.Len(), from+len(by)))
		copy(b, v.Text())
		copy(b[from:], by)
		v.SetText(string(b))
		t.update(t.key(), v)
	}
	return number(v.Len())
}

func (t *task) getRange() api.Reply {
	a, b := t.num(2), t.num(3)
	s := t.first(api.VString).Text()
	from, to := places(a, b, len(s))
	return text(s[from:to])
}

// places is the places from a to b of n: from which one on, and up to which one, that is none of them.
func places(a, b, n int) (from, to int) {
	if a < 0 {
		a = max(a+n, 0)
	}
	if b < 0 {
		b += n
	}
	b = min(b, n-1)
	if a > b {
		return 0, 0
	}
	return a, b + 1
}

// numeral is the number of a text that stands by a key, or a field; none there is 0.
func numeral(s string) int {
	if s == "" {
		return 0
	}
	n, ok := verb.Int(s)
	if !ok {
		panic(notInt)
	}
	return n
}

// sum is two numbers together.
func sum(a, b int) int {
	s := a + b
	if (s > a) != (b > 0) { // it went round
		panic(overflow)
	}
	return s
}

// plus is a text's number, and n more.
func plus(s string, n int) int { return sum(numeral(s), n) }

// minus is a text's number, and n less.
func minus(s string, n int) int {
	from := numeral(s)
	if n == math.MinInt { // no number is as much above 0
		panic(overflow)
	}
	return sum(from, -n)
}

// count lets a string be the number that it is by now, and by n another one.
func (t *task) count(by func(s string, n int) int, n int) api.Reply {
	v := t.first(api.VString)
	total := by(v.Text(), n)
	v.SetText(verb.Text(total))
	t.update(t.key(), v)
	return number(total)
}
