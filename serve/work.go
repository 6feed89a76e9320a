package serve

import (
	"bytes"
	"slices"

	"intaglio/api"
	"intaglio/pipe"
	"intaglio/resp"
	"intaglio/sess"
	"intaglio/shake"
	"intaglio/verb"
)

// Out is a frame that goes out.
type Out struct {
	Way   int
	Frame []byte
}

// accept takes a hello: the connection of a way is a new one.
func (s *Server) accept(way int, rand [16]byte, frame []byte) ([]byte, api.Errno) {
	if s.begun >= within(s.bounds.Conn) {
		return nil, api.ESPENT
	}
	talk, answer, e := shake.Accept(s.box, s.vault.Life(), s.begun, rand, frame)
	if e != api.OK {
		return nil, e
	}
	s.begun++
	s.ways[way] = &conn{Parser: resp.New(), shake: talk, session: sess.New()}
	return answer, api.OK
}

// finish takes what finishes the talk of a way.
func (s *Server) finish(way int, frame []byte) api.Errno {
	c := s.ways[way]
	keys, e := c.shake.Finish(frame)
	if e != api.OK {
		s.ways[way] = nil
		return e
	}
	c.pipe = pipe.New(s.box, keys, 1, s.bounds)
	c.talk = &Talk{Keys: keys}
	s.talks = append(s.talks, c.talk)
	return api.OK
}

// hear takes a frame of the pipe of a way.
func (s *Server) hear(way, draw int, frame []byte) api.Errno {
	c := s.ways[way]
	text, e := c.pipe.Open(frame)
	if e != api.OK {
		s.ways[way] = nil
		return e
	}
	c.talk.Heard = append(c.talk.Heard, text...)
	commands, fault := c.Feed(text)
	for _, args := range commands {
		if e := s.do(c, draw, args); e != api.OK {
			return e
		}
	}
	if fault != api.OK {
		c.fail("ERR protocol error")
		c.ending = true
	}
	return api.OK
}

// changes tells whether a command may change what is in the store.
func changes(args []string) bool {
	spec, _ := verb.Find(args[0])
	return spec.Writes || spec.Name == "EXEC"
}

// makeRoom rewrites the vault, if it is full; the error with which the server is down.
func (s *Server) makeRoom() api.Errno {
	if !s.vault.Full() {
		return api.OK
	}
	e := s.renew(false)
	if e == api.ESPENT { // the client is told
		e = api.OK
	}
	return e
}

// do does a command; the error with which the server is down.
func (s *Server) do(c *conn, draw int, args []string) api.Errno {
	if changes(args) {
		if e := s.makeRoom(); e != api.OK {
			return e
		}
		if s.vault.Full() {
			c.fail("ERR exhausted")
			return api.OK
		}
	}
	reply, group := c.session.Do(s.store, s.now, draw, args)
	c.wait(reply)
	if len(group.Commands) == 0 {
		return api.OK
	}
	s.ran = append(s.ran, group)
	return s.heed(s.vault.Add(sess.Encode(group)))
}

// heed is an error of the vault, with which the server is down, but if only a counter is at its end.
func (s *Server) heed(e api.Errno) api.Errno {
	if e != api.OK && e != api.ESPENT {
		s.down.Store(true)
	}
	return e
}

// renew makes a new generation of files.
func (s *Server) renew(turn bool) api.Errno {
	return s.heed(s.vault.Rewrite(encodeEntries(s.store.Dump()), turn))
}

// send sends all replies that wait.
func (s *Server) send() []Out {
	var l []Out
	for way, c := range s.ways {
		if c == nil {
			continue
		}
		frames, e := c.send()
		for _, frame := range frames {
			l = append(l, Out{way, frame})
		}
		if e != api.OK || c.ending {
			s.ways[way] = nil
		}
	}
	return l
}

// Sync lets all that was done last, and sends the replies.
func (s *Server) Sync() ([]Out, api.Errno) {
	if e := s.refuse(); e != api.OK {
		return nil, e
	}
	if e := s.heed(s.vault.Commit()); e != api.OK {
		return nil, e
	}
	return s.send(), api.OK
}

// Rewrite makes a new generation of files, and sends the replies.
func (s *Server) Rewrite(turn bool) ([]Out, api.Errno) {
	if e := s.refuse(); e != api.OK {
		return nil, e
	}
	if e := s.renew(turn); e != api.OK {
		return nil, e
	}
	return s.send(), api.OK
}

// copied is a group like this one, in memory of its own.
func copied(g sess.Group) sess.Group {
	g.Commands = slices.Clone(g.Commands)
	for i, args := range g.Commands {
		g.Commands[i] = slices.Clone(args)
	}
	return g
}

// copied is a talk like this one, in memory of its own.
func (t *Talk) copied() Talk { return Talk{t.Keys, bytes.Clone(t.Heard), bytes.Clone(t.Told)} }
