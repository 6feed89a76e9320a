package store

import (
	"intaglio/api"
	"intaglio/space"
	"intaglio/value"
	"intaglio/verb"
)

// refusal is why a command can't go on: the text that is told of it. It is given up by a panic.
type refusal string

const (
	notHere     refusal = "ERR not here"
	notInt      refusal = "ERR value is not an integer or out of range"
	badWord     refusal = "ERR syntax error"
	badTime     refusal = "ERR invalid expire time"
	wrongKind   refusal = "WRONGTYPE the key holds another kind of value"
	tooMany     refusal = "ERR too many elements"
	tooLong     refusal = "ERR too long"
	noKey       refusal = "ERR no such key"
	badPlace    refusal = "ERR index out of range"
	overflow    refusal = "ERR increment or decrement would overflow"
	outOfMemory refusal = "OOM no memory left"
)

// standing is a value that stands by a key, and when the key goes (0: never); without a value the key is not there.
type standing struct {
	value *value.Value
	at    int
}

// same tells whether two are the same.
func (s standing) same(as standing) bool {
	return s.at == as.at && value.Same(s.value.Plain(), as.value.Plain())
}

// task is a command that is being done.
type task struct {
	space     *space.Space
	now, draw int
	words     []string
	ahead     map[string]standing // what stood by the keys that were changed, ahead of the command
}

// doer does a command.
type doer func(t *task) api.Reply

// find is what does a command of a name; nil: nothing does it here.
func find(name string) doer {
	for _, group := range []func(name string) doer{keyDoer, stringDoer, hashDoer, listDoer, setDoer, sortedDoer} {
		if d := group(name); d != nil {
			return d
		}
	}
	return nil
}

// try does the command; if it can't go on, everything is put back.
func (t *task) try(most int) (out api.Reply) {
	defer func() {
		switch why := recover().(type) {
		case nil:
		case refusal:
			t.putBack()
			out = failed(string(why))
		default:
			panic(why)
		}
	}()
	return t.do(most)
}

// do does the command, in so much memory.
func (t *task) do(most int) api.Reply {
	spec, wrong := verb.Check(t.words)
	if wrong != "" {
		panic(refusal(wrong))
	}
	d := find(spec.Name)
	if d == nil {
		panic(notHere)
	}
	ahead := t.space.Used()
	out := d(t)
	if used := t.space.Used(); used > most && used > ahead {
		panic(outOfMemory)
	}
	return out
}

// look is what stands by a key.
func (t *task) look(key string) standing {
	v, _ := t.space.Get(key)
	at, _ := t.space.At(key)
	return standing{v, at}
}

// stand lets something stand by a key, or nothing.
func (t *task) stand(key string, s standing) {
	if !t.space.Set(key, s.value, s.at) {
		t.space.Drop(key)
	}
}

// change lets something stand by a key, or nothing, and keeps what stood there ahead of the command.
func (t *task) change(key string, s standing) {
	if _, kept := t.ahead[key]; !kept {
		t.ahead[key] = t.look(key)
	}
	t.stand(key, s)
}

// putBack lets stand by all keys what stood there ahead of the command.
func (t *task) putBack() {
	for key, s := range t.ahead {
		t.stand(key, s)
	}
}

// changed is the keys by which something else stands than ahead of the command.
func (t *task) changed() []string {
	var l []string
	for key, s := range t.ahead {
		if !s.same(t.look(key)) {
			l = append(l, key)
		}
	}
	return l
}

// has tells whether a key is there.
func (t *task) has(key string) bool {
	_, there := t.space.At(key)
	return there
}

// drop takes a key out; whether it was there.
func (t *task) drop(key string) bool {
	there := t.has(key)
	t.change(key, standing{})
	return there
}

// get is a value like a key's, that must be of a kind; an empty one and false, if the key is not there.
func (t *task) get(kind int, key string) (*value.Value, bool) {
	v, there := t.space.Get(key)
	if !there {
		return value.New(kind), false
	}
	if v.Kind() != kind {
		panic(wrongKind)
	}
	return v, true
}

// like is a value like a key's, that must be of a kind; an empty one, if the key is not there.
func (t *task) like(kind int, key string) *value.Value {
	v, _ := t.get(kind, key)
	return v
}

// put lets a value stand by a key, that goes at a time. One that is no string is not put without elements: the key is dropped.
func (t *task) put(key string, v *value.Value, at int) {
	isText, n := v.Kind() == api.VString, v.Len()
	switch {
	case isText && n > api.MaxText:
		panic(tooLong)
	case !isText && n > api.MaxItems:
		panic(tooMany)
	case !isText && n == 0:
		t.drop(key)
	default:
		t.change(key, standing{v, at})
	}
}

// update lets a value stand by a key in the place of one of its kind: the key goes when it went.
func (t *task) update(key string, v *value.Value) {
	at, _ := t.space.At(key)
	t.put(key, v, at)
}

// key is the first key of the command.
func (t *task) key() string { return t.words[1] }

// first is a value like that of the first key, that must be of a kind; an empty one, if the key is not there.
func (t *task) first(kind int) *value.Value { return t.like(kind, t.key()) }

// num is the number of a word.
func (t *task) num(word int) int {
	n, ok := verb.Int(t.words[word])
	if !ok {
		panic(notInt)
	}
	return n
}

// counted is of how many words something is true, that is asked of one behind the other.
func counted(words []string, is func(word string) bool) int {
	n := 0
	for _, word := range words {
		if is(word) {
			n++
		}
	}
	return n
}
