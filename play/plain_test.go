package play_test

import (
	"math/big"

	"intaglio/api"
	"intaglio/box"
	"intaglio/cell"
	"intaglio/disk"
	"intaglio/pipe"
	"intaglio/play"
	"intaglio/serve"
	"intaglio/sess"
	"intaglio/shake"
	"intaglio/wire"
)

// plain is a world by the chapter's words. Nothing of it is ever taken away: servers that are no more stand ahead of the last one.
type plain struct {
	p       *disk.Power
	d       *disk.Disk
	c       *cell.Cell
	b       *box.Box
	net     *wire.Wire
	bounds  api.Bounds
	most    int
	now     int
	servers []*serve.Server
	crashed bool // the last one is there no more
	lines   []*line
	has     map[int]*line // by client
	past    [][]api.File
}

// line is a call.
type line struct {
	hand *shake.Client
	end  *pipe.Pipe
	call play.Call
}

func newPlain(bounds api.Bounds, most int, ideal bool) *plain {
	p := disk.Plug()
	return &plain{p: p, d: disk.New(p), c: cell.New(p, bounds), b: box.New([]byte("intaglio"), ideal), net: wire.New(12), bounds: bounds, most: most, has: map[int]*line{}}
}

// rest is what is left of a number without a sign, by another one.
func rest(n, by int) int {
	m := new(big.Int).SetUint64(uint64(n))
	return int(m.Mod(m, big.NewInt(int64(by))).Int64())
}

// bytesOf is the random bytes of a number.
func bytesOf(n int) [16]byte {
	var b [16]byte
	for i := range 8 {
		b[7-i] = byte(n >> (8 * i))
	}
	return b
}

// server is the server that is up; nil: none is.
func (m *plain) server() *serve.Server {
	if len(m.servers) == 0 || m.crashed || !m.servers[len(m.servers)-1].Up() {
		return nil
	}
	return m.servers[len(m.servers)-1]
}

func (m *plain) step(x api.Step) api.Errno {
	switch x.Kind {
	case 1:
		if m.server() != nil {
			return api.ETHERE
		}
		s, e := serve.Boot(m.d, m.c, m.b, m.bounds, m.most, m.now)
		if e == api.OK {
			m.servers, m.crashed = append(m.servers, s), false
		}
		return e
	case 2:
		m.d.Crash(x.Cuts)
		m.crashed = true
	case 3:
		m.p.Fuse(x.N)
	case 4:
		if x.N > 0 && x.N >= 1<<40-m.now {
			m.now = 1 << 40
		} else if x.N > 0 {
			m.now += x.N
		}
		if s := m.server(); s != nil {
			s.Tick(x.N)
		}
	case 5, 6, 13:
		return m.client(x)
	case 7, 8, 9, 10:
		return m.wire(x)
	case 11, 12:
		return m.lasts(x)
	case 14:
		m.past = append(m.past, m.d.Image())
	case 15, 16:
		return m.files(x)
	default:
		return api.EARG
	}
	return api.OK
}

func (m *plain) client(x api.Step) api.Errno {
	if x.Who < 0 || x.Who > 5 {
		return api.EARG
	}
	if x.Kind == 5 {
		peer := len(m.lines)
		hand, hello, e := shake.Dial(m.b, peer, bytesOf(x.N))
		if e == api.OK {
			m.has[x.Who] = &line{hand: hand, call: play.Call{Keys: shake.Keys{Peer: peer}}}
			m.lines = append(m.lines, m.has[x.Who])
			m.net.Send(2*x.Who, hello)
		}
		return e
	}
	l := m.has[x.Who]
	if l == nil || !l.call.Done {
		return api.ESTATE
	}
	if x.Kind == 6 {
		frame, e := l.end.Seal(x.Text)
		if e == api.OK {
			l.call.Said = append(l.call.Said, x.Text...)
			m.net.Send(2*x.Who, frame)
		}
		return e
	}
	frame, e := l.end.Close()
	if e == api.OK {
		m.net.Send(2*x.Who, frame)
		delete(m.has, x.Who)
	}
	return e
}

func (m *plain) wire(x api.Step) api.Errno {
	var frame []byte
	var e api.Errno
	way := x.M
	switch x.Kind {
	case 7:
		frame, e = m.net.Next(x.Way)
		way = x.Way
	case 8:
		frame, e = m.net.Pick(x.Way, x.K)
		frame = wire.Turn(frame, x.At, x.By)
	case 9:
		frame = x.Text
	case 10:
		return m.net.Lose(x.Way)
	}
	if e != api.OK {
		return e
	}
	if way < 0 || way > 11 {
		return api.EARG
	}
	if way%2 == 1 {
		return m.hears(way/2, frame)
	}
	s := m.server()
	if s == nil {
		return api.ESTATE
	}
	answer, e := s.Take(way/2, x.N, bytesOf(x.N), frame)
	if len(answer) > 0 {
		m.net.Send(way+1, answer)
	}
	return e
}

// hears lets a frame come to a client.
func (m *plain) hears(who int, frame []byte) api.Errno {
	l := m.has[who]
	if l == nil {
		return api.ESTATE
	}
	if l.call.Done {
		text, e := l.end.Open(frame)
		if e != api.OK {
			delete(m.has, who)
			return e
		}
		l.call.Got = append(l.call.Got, text...)
		return api.OK
	}
	finish, k, e := l.hand.Answer(frame)
	if e != api.OK {
		delete(m.has, who)
		return e
	}
	l.end = pipe.New(m.b, k, 0, m.bounds)
	l.call.Keys, l.call.Done = k, true
	m.net.Send(2*who, finish)
	return api.OK
}

func (m *plain) lasts(x api.Step) api.Errno {
	s := m.server()
	if s == nil {
		return api.ESTATE
	}
	var outs []serve.Out
	var e api.Errno
	if x.Kind == 11 {
		outs, e = s.Sync()
	} else {
		outs, e = s.Rewrite(x.N&1 == 1)
	}
	for _, o := range outs {
		m.net.Send(2*o.Way+1, o.Frame)
	}
	return e
}

func (m *plain) files(x api.Step) api.Errno {
	files := m.d.Image()
	if x.Kind == 15 {
		if len(m.past) == 0 {
			return api.ENONE
		}
		files = m.past[rest(x.N, len(m.past))]
		if x.K&1 == 0 {
			return m.d.Load(files)
		}
	}
	if len(files) == 0 {
		return api.ENONE
	}
	f := files[rest(x.M, len(files))]
	if x.Kind == 16 && x.N&1 == 0 {
		f.Data = x.Text
	} else if x.Kind == 16 {
		f.Data = f.Data[:rest(x.N, len(f.Data)+1)]
	}
	return m.d.Edit(f.Name, f.Data)
}

// ran is the groups of the server, or of the last one.
func (m *plain) ran() []sess.Group {
	if len(m.servers) == 0 {
		return nil
	}
	return m.servers[len(m.servers)-1].Ran()
}

// talks is what all servers heard and told.
func (m *plain) talks() []serve.Talk {
	var l []serve.Talk
	for _, s := range m.servers {
		l = append(l, s.Talks()...)
	}
	return l
}

// calls is what all clients said and got.
func (m *plain) calls() []play.Call {
	var l []play.Call
	for _, x := range m.lines {
		l = append(l, x.call)
	}
	return l
}
