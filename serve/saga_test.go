package serve_test

import (
	"bytes"
	"fmt"
	"math/rand"
	"slices"
	"strings"
	"testing"

	"intaglio/api"
	"intaglio/resp"
	"intaglio/serve"
	"intaglio/sess"
	"intaglio/store"
)

// guest is a client of a saga: what it said, and what it must be told.
type guest struct {
	*client
	said    []byte
	session *sess.Session
	owed    []byte
	lost    bool // a frame to it was lost: it takes no other one
	over    bool // a fault of the parser was told
}

// saga is a server's lives, one behind the other: who calls it, and what must last.
type saga struct {
	*twin
	rnd    *rand.Rand
	guests [6]*guest
	all    []*guest // of this life
	ref    *store.Store
	base   []api.Entry // what this life began with
	last   int         // how many groups were told to last
	past   [][]api.File
	saw    map[string]int
}

// sees counts what was told.
func (s *saga) sees(what string, e api.Errno) api.Errno {
	s.saw[fmt.Sprint(what, " ", e)]++
	return e
}

// replayed is the entries that the first groups of a life make of what it began with.
func (s *saga) replayed(groups []sess.Group, now int) string {
	s.Helper()
	st, e := store.Load(min(s.most, 40000), s.base)
	s.tells("load", e, api.OK)
	for _, g := range groups {
		sess.Replay(st, g)
	}
	st.Sweep(now)
	return show(st.Dump())
}

// lasts asks whether what is there is what the groups of the life ahead make, up to one of them, behind all that was told to last.
func (s *saga) lasts(ran []sess.Group) {
	s.Helper()
	got := show(s.s.State())
	for n := s.last; n <= len(ran); n++ {
		if s.replayed(ran[:n], s.s.Now()) == got {
			if n > s.last {
				s.saw["found more than was told"]++
			}
			if n < len(ran) {
				s.saw["found less than was done"]++
			}
			return
		}
	}
	s.Fatalf("found %s, of %v, of which %d last", got, ran, s.last)
}

// rise boots, and asks what is there; ran is what the life ahead did.
func (s *saga) rise(ran []sess.Group) api.Errno {
	s.Helper()
	e := s.sees("boot", s.boot())
	if e != api.OK {
		return e
	}
	s.lasts(ran)
	s.guests, s.all, s.base, s.last = [6]*guest{}, nil, s.s.State(), 0
	s.ref, _ = store.Load(min(s.most, 40000), s.base)
	return e
}

// fall takes the power away, and boots; somebody may edit files between.
func (s *saga) fall() {
	s.Helper()
	s.asks()
	ran := s.s.Ran()
	var cuts []int
	for range s.rnd.Intn(6) {
		cuts = append(cuts, s.rnd.Intn(300))
	}
	s.crash(cuts...)
	s.now += s.rnd.Intn(3)
	files := s.got.d.Image()
	if s.rnd.Intn(3) == 0 {
		s.tamper()
		if e := s.rise(ran); e == api.OK {
			return
		}
		s.each(func(x world) { s.tells("load", x.d.Load(files), api.OK) })
	}
	s.tells("a boot of files that nobody edited", s.rise(ran), api.OK)
}

// tamper edits files, or puts files of before there.
func (s *saga) tamper() {
	files := s.got.d.Image()
	f := files[s.rnd.Intn(len(files))]
	old := s.past[s.rnd.Intn(len(s.past))]
	s.each(func(x world) {
		switch s.peers % 4 {
		case 0:
			x.d.Load(old)
		case 1:
			x.d.Edit(f.Name, f.Data[:len(f.Data)*3/4])
		case 2:
			b := slices.Clone(f.Data)
			if len(b) > 0 {
				b[len(b)/2] ^= 1
			}
			x.d.Edit(f.Name, b)
		case 3:
			for _, o := range old {
				if o.Name == f.Name || strings.HasPrefix(o.Name, "snap") {
					x.d.Edit(o.Name, o.Data)
				}
			}
		}
	})
}

// asks holds what the server heard and told against what its clients said and opened.
func (s *saga) asks() {
	s.Helper()
	talks := s.s.Talks()
	for _, g := range s.all {
		i := slices.IndexFunc(talks, func(t serve.Talk) bool { return t.Keys == g.keys })
		if i < 0 {
			s.Fatalf("no talk of %v", g.keys)
		}
		t := talks[i]
		if !bytes.Equal(t.Heard, g.said[:len(t.Heard)]) || !bytes.Equal(g.opened, t.Told[:len(g.opened)]) {
			s.Fatalf("%v: said %q, heard %q; told %q, opened %q", g.keys, g.said, t.Heard, t.Told, g.opened)
		}
		if s.bounds.Nonce > 500 && !bytes.HasPrefix(g.owed, t.Told) {
			s.Fatalf("%v: told %q, of %q\nheard %q", g.keys, t.Told, g.owed, t.Heard)
		}
		if len(t.Told) > 0 {
			s.saw["told"]++
		}
	}
}

// dial begins a connection on a way, and most finish it.
func (s *saga) dial(way int) {
	s.Helper()
	s.guests[way] = nil
	c, finish := s.dialled(way)
	if s.rnd.Intn(8) == 0 {
		return
	}
	if s.rnd.Intn(10) == 0 {
		finish[s.rnd.Intn(len(finish)-1)+1] ^= 4
		s.brings("a finish that is turned", way, finish, api.EAUTH)
		return
	}
	s.brings("a finish", way, finish, api.OK)
	g := &guest{client: c, session: sess.New()}
	s.guests[way], s.all = g, append(s.all, g)
}

// line is commands, in bytes.
func (s *saga) line() string {
	var b []byte
	for range 1 + s.rnd.Intn(3) {
		b = append(b, resp.Command(anything(s.rnd))...)
	}
	if s.rnd.Intn(60) == 0 {
		b = append(b, "*1\r\n$x\r\n"...)
	}
	return string(b)
}

// expect does what a client said on the store of reference.
func (s *saga) expect(g *guest, ahead, behind int) {
	before, _ := resp.New().Feed(g.said[:ahead])
	commands, fault := resp.New().Feed(g.said[:behind])
	for _, args := range commands[len(before):] {
		r, _ := g.session.Do(s.ref, s.s.Now(), 3, args)
		g.owed = append(g.owed, resp.Encode(r)...)
	}
	if fault != api.OK && !g.over {
		g.over = true
		g.owed = append(g.owed, "-ERR protocol error\r\n"...)
		s.saw["fault"]++
	}
}

// say lets a client say something, that comes, or befalls something.
func (s *saga) say(g *guest) {
	s.Helper()
	text := s.line()
	if n := s.rnd.Intn(len(text)); s.rnd.Intn(5) == 0 {
		text = text[:n]
	}
	if _, c := g.ends[0].Counts(); c > 900 || !g.ends[0].Up() {
		return
	}
	ahead := len(g.said)
	g.said = append(g.said, text...)
	frame := g.seal(text)
	way := g.way
	switch s.rnd.Intn(40) {
	case 0: // it is lost: the next one will be refused
		s.saw["lost"]++
		return
	case 1:
		frame[s.rnd.Intn(len(frame)-1)+1] ^= 1
		s.saw["turned"]++
	case 2:
		way = (way + 1) % 6
		s.saw["on another way"]++
	}
	_, e := s.take(way, 3, [16]byte{}, frame)
	s.sees("take", e)
	if e == api.OK && way == g.way {
		s.expect(g, ahead, len(g.said))
	}
	if way == g.way && s.rnd.Intn(30) == 0 && s.s.Up() {
		_, e := s.take(g.way, 3, [16]byte{}, frame)
		s.sees("doubled", e)
	}
}

// hand hands frames that went out to the clients.
func (s *saga) hand(outs []serve.Out) {
	s.Helper()
	for _, o := range outs {
		g := s.guests[o.Way]
		if g == nil || g.lost {
			continue
		}
		if s.rnd.Intn(30) == 0 {
			g.lost = true
			continue
		}
		g.opens([]serve.Out{o})
		s.saw["opened"]++
	}
}

// work is one thing that befalls the server.
func (s *saga) work() {
	s.Helper()
	way := s.rnd.Intn(6)
	switch n := s.rnd.Intn(30); {
	case n < 3:
		outs, e := s.sync()
		if s.sees("sync", e) == api.OK {
			s.last = len(s.s.Ran())
			s.hand(outs)
		}
	case n == 3:
		outs, e := s.rewrite(s.rnd.Intn(2) == 0)
		if s.sees("rewrite", e) == api.OK {
			s.last = len(s.s.Ran())
			s.hand(outs)
		}
	case n == 4:
		s.now = s.s.Now()
		t := s.rnd.Intn(4)
		s.tick(t)
		s.now += t
		s.ref.Sweep(s.s.Now())
	case n == 5 && s.rnd.Intn(3) == 0:
		_, e := s.close(way)
		s.sees("close", e)
		s.guests[way] = nil
	case n == 6 && s.rnd.Intn(4) == 0:
		s.fuse(s.rnd.Intn(20))
	case n == 7:
		frame := make([]byte, s.rnd.Intn(70))
		for i := range frame {
			frame[i] = byte(s.rnd.Intn(6))
		}
		if len(frame) > 0 && frame[0] == 1 {
			frame[0] = 3
		}
		_, e := s.take(way, 3, [16]byte{}, frame)
		s.sees("forged", e)
	case n == 8:
		s.past = append(s.past, s.got.d.Image())
	case n == 9 || s.guests[way] == nil:
		if s.got.p.On() {
			s.dial(way)
		}
	default:
		s.say(s.guests[way])
	}
}

// anything is a command, of which most may be.
func anything(rnd *rand.Rand) []string {
	pick := func(s string) string {
		l := strings.Split(s, " ")
		return l[rnd.Intn(len(l))]
	}
	key, number := pick("a b c k"), pick("0 1 2 5 -1 x")
	switch rnd.Intn(16) {
	case 0, 1:
		return []string{pick("MULTI multi")}
	case 2, 3:
		return []string{pick("EXEC exec EXEC DISCARD UNWATCH")}
	case 4:
		return []string{"WATCH", key, pick("a b c k")}
	case 5:
		return []string{pick("SPOP SRANDMEMBER SMEMBERS"), pick("s t")}
	case 6:
		return []string{"SADD", pick("s t a"), number, pick("x y z")}
	case 7:
		return []string{pick("PEXPIRE PEXPIREAT"), key, pick("1 3 9 20")}
	case 8:
		return []string{pick("NOPE GET FLUSHALL SET PING EXEC"), key}
	case 9:
		return []string{"APPEND", key, strings.Repeat("x", rnd.Intn(90))}
	case 10:
		return []string{"RPUSH", pick("l l m"), number, key}
	case 11, 12:
		return []string{pick("GET GET DEL LPOP INCR TTL"), pick("a b c k l m s")}
	}
	return []string{pick("INCRBY SET SET"), key, number}
}

// newSaga is a saga whose first server is up.
func newSaga(t *testing.T, seed int64, ideal bool, saw map[string]int) *saga {
	rnd := rand.New(rand.NewSource(seed))
	bounds := wide()
	bounds.Seq, bounds.Epoch, bounds.Life, bounds.Gen, bounds.Conn, bounds.Pin = 5, 100000, 100000, 100000, 100000, 100000
	if rnd.Intn(2) == 0 {
		bounds.Nonce = 25 + rnd.Intn(20)
	}
	s := &saga{twin: newTwin(t, ideal, bounds), rnd: rnd, saw: saw}
	s.most = []int{500, 1500, 40000}[rnd.Intn(3)]
	s.now = 0
	s.tells("boot", s.rise(nil), api.OK)
	s.past = append(s.past, s.got.d.Image())
	return s
}

// P25.1 to P25.6, P3 to P7: any lives, with crashes, with frames and files that anybody edits.
func TestSaga(t *testing.T) {
	saw := map[string]int{}
	for seed := range int64(60) {
		s := newSaga(t, seed, seed%2 == 0, saw)
		for range 400 {
			s.work()
			if !s.s.Up() || s.rnd.Intn(100) == 0 {
				if s.rnd.Intn(4) == 0 && !s.s.Up() {
					s.isDown("behind an error")
					s.fuse(-1)
				}
				s.fall()
			}
		}
		s.asks()
	}
	for _, what := range []string{"boot 0", "boot 11", "sync 0", "sync 8", "rewrite 0", "rewrite 8", "take 0", "take 6", "take 8", "take 9", "forged 6", "forged 9", "doubled 6", "close 0", "close 9", "fault", "lost", "turned", "on another way", "opened", "told", "found more than was told", "found less than was done"} {
		if saw[what] < 10 {
			t.Errorf("the test is wrong: %d times %q: %v", saw[what], what, saw)
		}
	}
}
