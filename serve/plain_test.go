package serve_test

import (
	"strings"

	"intaglio/api"
	"intaglio/box"
	"intaglio/cell"
	"intaglio/disk"
	"intaglio/pipe"
	"intaglio/resp"
	"intaglio/serve"
	"intaglio/sess"
	"intaglio/shake"
	"intaglio/store"
	"intaglio/value"
	"intaglio/vault"
	"intaglio/verb"
)

// world is what a server is handed. The cell may have a power of its own.
type world struct {
	p, q *disk.Power
	d    *disk.Disk
	c    *cell.Cell
	b    *box.Box
}

func newWorld(ideal bool, cells api.Bounds) world {
	p, q := disk.Plug(), disk.Plug()
	return world{p, q, disk.New(p), cell.New(p, cells), box.New([]byte("secret"), ideal)}
}

// apart is a world whose cell has its own power.
func apart(ideal bool, cells api.Bounds) world {
	w := newWorld(ideal, cells)
	w.c = cell.New(w.q, cells)
	return w
}

// plain is a server by the chapter's words.
type plain struct {
	world
	bounds api.Bounds
	v      *vault.Vault
	st     *store.Store
	now    int
	down   bool
	begun  int
	lines  map[int]*line
	ran    []sess.Group
	talks  []*serve.Talk
}

// line is a connection. Its parser is made anew for each text, and fed all that was heard.
type line struct {
	hand    *shake.Server
	end     *pipe.Pipe
	done    int
	session *sess.Session
	replies []api.Reply
	fault   bool
	talk    *serve.Talk
}

// between is n, or the nearest one from 0 to most.
func between(n, most int) int {
	if n < 0 {
		return 0
	}
	if n > most {
		return most
	}
	return n
}

func plainBoot(w world, bounds api.Bounds, most, now int) (*plain, api.Errno) {
	v, found, e := vault.Boot(w.d, w.c, w.b, bounds)
	if e != api.OK {
		return nil, e
	}
	var l []api.Entry
	for _, b := range found.Entries {
		entry, e := value.Decode(b)
		if e != api.OK {
			return nil, api.ETAMPER
		}
		l = append(l, entry)
	}
	st, e := store.Load(between(most, 40000), l)
	if e != api.OK {
		return nil, api.ETAMPER
	}
	var last int
	for _, b := range found.Recs {
		g, ok := sess.Decode(b)
		if !ok {
			return nil, api.ETAMPER
		}
		sess.Replay(st, g)
		last = g.Now
	}
	s := &plain{world: w, bounds: bounds, v: v, st: st, now: between(now, 1<<40), lines: map[int]*line{}}
	if last > s.now {
		s.now = last
	}
	st.Sweep(s.now)
	if e := v.Begin(s.entries()); e != api.OK {
		return nil, e
	}
	return s, api.OK
}

func (s *plain) entries() [][]byte {
	var l [][]byte
	for _, entry := range s.st.Dump() {
		b, _ := value.Encode(entry)
		l = append(l, b)
	}
	return l
}

// refuse is what is asked first of each way.
func (s *plain) refuse(way int) api.Errno {
	if way < 0 || way > 5 {
		return api.EARG
	}
	if s.down {
		return api.ESTATE
	}
	return api.OK
}

func (s *plain) take(way, draw int, rand [16]byte, frame []byte) ([]byte, api.Errno) {
	if e := s.refuse(way); e != api.OK {
		return nil, e
	}
	if len(frame) > 0 && frame[0] == 1 {
		if s.begun >= between(s.bounds.Conn, 1<<40) {
			return nil, api.ESPENT
		}
		hand, answer, e := shake.Accept(s.b, s.v.Life(), s.begun, rand, frame)
		if e == api.OK {
			s.begun++
			s.lines[way] = &line{hand: hand, session: sess.New()}
		}
		return answer, e
	}
	l := s.lines[way]
	if l == nil || l.fault {
		return nil, api.ENONE
	}
	if l.end == nil {
		k, e := l.hand.Finish(frame)
		if e != api.OK {
			delete(s.lines, way)
			return nil, e
		}
		l.end = pipe.New(s.b, k, 1, s.bounds)
		l.talk = &serve.Talk{Keys: k}
		s.talks = append(s.talks, l.talk)
		return nil, api.OK
	}
	text, e := l.end.Open(frame)
	if e != api.OK {
		delete(s.lines, way)
		return nil, e
	}
	l.talk.Heard = append(l.talk.Heard, text...)
	commands, fault := resp.New().Feed(l.talk.Heard)
	for _, args := range commands[l.done:] {
		l.done++
		if e := s.do(l, draw, args); e != api.OK {
			s.down = true
			return nil, e
		}
	}
	if fault != api.OK {
		l.fault = true
		l.replies = append(l.replies, api.Reply{Kind: api.RError, Text: "ERR protocol error"})
	}
	return nil, api.OK
}

// do does a command; an error lets the server be down.
func (s *plain) do(l *line, draw int, args []string) api.Errno {
	name := strings.ToUpper(args[0])
	spec, _ := verb.Find(name)
	if (spec.Writes || name == "EXEC") && s.v.Full() {
		if e := s.v.Rewrite(s.entries(), false); e != api.OK && e != api.ESPENT {
			return e
		}
		if s.v.Full() {
			l.replies = append(l.replies, api.Reply{Kind: api.RError, Text: "ERR exhausted"})
			return api.OK
		}
	}
	r, g := l.session.Do(s.st, s.now, draw, args)
	l.replies = append(l.replies, r)
	if len(g.Commands) > 0 {
		s.ran = append(s.ran, g)
		return s.v.Add(sess.Encode(g))
	}
	return api.OK
}

// lasts is the error of a call of the vault, and whether the server is down by it.
func (s *plain) lasts(e api.Errno) api.Errno {
	if e != api.OK && e != api.ESPENT {
		s.down = true
	}
	return e
}

func (s *plain) sync() ([]serve.Out, api.Errno) {
	if s.down {
		return nil, api.ESTATE
	}
	if e := s.lasts(s.v.Commit()); e != api.OK {
		return nil, e
	}
	return s.send(), api.OK
}

func (s *plain) rewrite(turn bool) ([]serve.Out, api.Errno) {
	if s.down {
		return nil, api.ESTATE
	}
	if e := s.lasts(s.v.Rewrite(s.entries(), turn)); e != api.OK {
		return nil, e
	}
	return s.send(), api.OK
}

func (s *plain) send() []serve.Out {
	var out []serve.Out
	for way := range 6 {
		l := s.lines[way]
		if l == nil {
			continue
		}
		var all []byte
		for _, r := range l.replies {
			all = append(all, resp.Encode(r)...)
		}
		l.replies = nil
		over := l.fault
		for len(all) > 0 {
			n := 50000
			if len(all) < n {
				n = len(all)
			}
			frame, e := l.end.Seal(all[:n])
			if e != api.OK {
				over = true
				break
			}
			out = append(out, serve.Out{Way: way, Frame: frame})
			l.talk.Told = append(l.talk.Told, all[:n]...)
			all = all[n:]
		}
		if over {
			delete(s.lines, way)
		}
	}
	return out
}

func (s *plain) close(way int) ([]byte, api.Errno) {
	if e := s.refuse(way); e != api.OK {
		return nil, e
	}
	l := s.lines[way]
	if l == nil || l.end == nil {
		return nil, api.ENONE
	}
	delete(s.lines, way)
	return l.end.Close()
}

func (s *plain) tick(n int) {
	for range between(n, 1<<40) {
		if n > 1<<20 {
			s.now = between(s.now+between(n, 1<<40), 1<<40)
			break
		}
		if s.now < 1<<40 {
			s.now++
		}
	}
	s.st.Sweep(s.now)
}
