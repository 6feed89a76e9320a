package sess_test

import (
	"encoding/binary"
	"strings"

	"intaglio/api"
	"intaglio/sess"
	"intaglio/store"
	"intaglio/verb"
)

// Errors, as the chapter writes them.
const (
	eInside  = "ERR MULTI inside MULTI"
	eExec    = "ERR EXEC without MULTI"
	eAbort   = "EXECABORT discarded because of errors"
	eDiscard = "ERR DISCARD without MULTI"
	eWatch   = "ERR WATCH inside MULTI"
	eMuch    = "ERR too much"
	eName    = "ERR unknown command"
	eCount   = "ERR wrong number of arguments"
	eLong    = "ERR too long"
	eKey     = "ERR bad key"
	eInt     = "ERR value is not an integer or out of range"
)

// watch is a key that is watched, and the Version that it had.
type watch struct {
	key     string
	version int
}

// plain is a session by the chapter's words.
type plain struct {
	open, wrong bool
	queued      [][]string
	watched     []watch
}

func bad(s string) api.Reply { return api.Reply{Kind: api.RError, Text: s} }

func word(s string) api.Reply { return api.Reply{Kind: api.RSimple, Text: s} }

// one does a command, and puts it into a group, if it belongs there.
func one(st *store.Store, g *sess.Group, now, draw int, args []string) api.Reply {
	if strings.ToUpper(args[0]) == "UNWATCH" {
		return word("OK")
	}
	r := st.Do(now, draw, args)
	if spec, _ := verb.Check(args); spec.Writes && r.Kind != api.RError {
		t := now
		if t < 0 {
			t = 0
		}
		if t > 1<<40 {
			t = 1 << 40
		}
		g.Now, g.Draw, g.Commands = t, draw, append(g.Commands, args)
	}
	return r
}

func (p *plain) do(st *store.Store, now, draw int, args []string) (api.Reply, sess.Group) {
	var g sess.Group
	st.Sweep(now)
	spec, wrong := verb.Check(args)
	if wrong != "" {
		if p.open {
			p.wrong = true
		}
		return bad(wrong), g
	}
	switch spec.Name {
	case "MULTI":
		if p.open {
			return bad(eInside), g
		}
		p.open = true
		return word("OK"), g
	case "EXEC":
		if !p.open {
			return bad(eExec), g
		}
		was := *p
		*p = plain{}
		if was.wrong {
			return bad(eAbort), g
		}
		for _, w := range was.watched {
			if st.Version(w.key) != w.version {
				return api.Reply{Kind: api.RNone}, g
			}
		}
		r := api.Reply{Kind: api.RArray}
		for _, args := range was.queued {
			r.List = append(r.List, one(st, &g, now, draw, args))
		}
		return r, g
	case "DISCARD":
		if !p.open {
			return bad(eDiscard), g
		}
		*p = plain{}
		return word("OK"), g
	case "WATCH":
		if p.open {
			return bad(eWatch), g
		}
		for _, key := range args[1:] {
			p.watch(key, st.Version(key))
		}
		return word("OK"), g
	}
	if p.open {
		return p.queue(args), g
	}
	if spec.Name == "UNWATCH" {
		p.watched = nil
	}
	r := one(st, &g, now, draw, args)
	return r, g
}

func (p *plain) watch(key string, version int) {
	for _, w := range p.watched {
		if w.key == key {
			return
		}
	}
	p.watched = append(p.watched, watch{key, version})
}

func (p *plain) queue(args []string) api.Reply {
	n := len(strings.Join(args, ""))
	for _, q := range p.queued {
		n += len(strings.Join(q, ""))
	}
	if len(p.queued) == 20 || n > 20000 {
		p.wrong = true
		return bad(eMuch)
	}
	p.queued = append(p.queued, append([]string{}, args...))
	return word("QUEUED")
}

// plainEncode is a group as bytes, by the chapter's words.
func plainEncode(g sess.Group) []byte {
	now := g.Now
	if now < 0 {
		now = 0
	}
	b := binary.BigEndian.AppendUint64(nil, uint64(now))
	b = binary.BigEndian.AppendUint64(b, uint64(g.Draw))
	b = binary.BigEndian.AppendUint64(b, uint64(len(g.Commands)))
	for _, args := range g.Commands {
		b = binary.BigEndian.AppendUint64(b, uint64(len(args)))
		for _, w := range args {
			b = binary.BigEndian.AppendUint32(b, uint32(len(w)))
			b = append(b, w...)
		}
	}
	return b
}

// left is bytes that are read from left to right; short: there were not so many.
type left struct {
	b     []byte
	short bool
}

func (l *left) next(n uint64) []byte {
	if l.short || n > uint64(len(l.b)) {
		l.short = true
		return make([]byte, 8)
	}
	out := l.b[:n]
	l.b = l.b[n:]
	return out
}

func (l *left) number() uint64 { return binary.BigEndian.Uint64(l.next(8)) }

func (l *left) size() uint64 { return uint64(binary.BigEndian.Uint32(l.next(4))) }

// plainDecode is the group of bytes, by the chapter's words.
func plainDecode(b []byte) (sess.Group, bool) {
	l := &left{b: b}
	now, draw, n := l.number(), l.number(), l.number()
	if now > 1<<40 || n < 1 || n > 21 {
		return sess.Group{}, false
	}
	g := sess.Group{Now: int(now), Draw: int(draw)}
	for range n {
		k := l.number()
		if k < 1 || k > 40 {
			return sess.Group{}, false
		}
		var args []string
		for range k {
			size := l.size()
			if size > 512 {
				return sess.Group{}, false
			}
			args = append(args, string(l.next(size)))
		}
		g.Commands = append(g.Commands, args)
	}
	if l.short || len(l.b) > 0 {
		return sess.Group{}, false
	}
	return g, true
}
