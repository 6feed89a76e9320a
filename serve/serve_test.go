package serve_test

import (
	"math"
	"slices"
	"strings"
	"testing"

	"intaglio/api"
	"intaglio/serve"
	"intaglio/shake"
)

// P25.2, P25.3, and the chapter's example: a command that is taken answers no frame; Sync its reply's.
func TestExample(t *testing.T) {
	both(t, func(t *testing.T, ideal bool) {
		w := booted(t, ideal, wide())
		c := w.call(0)
		answer, e := w.take(0, 0, [16]byte{}, c.seal(command("SET k 1")+command("GET k")))
		if len(answer) != 0 || e != api.OK {
			t.Fatalf("%x, %d", answer, e)
		}
		w.synced(c)
		c.heard("+OK|$1|1|")
	})
}

// DOC's examples of the whole, 2 and 3: what was synced is there behind a crash, what was not is not, and nobody was told.
func TestExamplesCrash(t *testing.T) {
	both(t, func(t *testing.T, ideal bool) {
		for _, synced := range []bool{true, false} {
			w := booted(t, ideal, wide())
			c := w.call(1).says("SET k 1")
			if synced {
				w.synced(c)
				c.heard("+OK|")
			}
			w.crash()
			w.tells("boot", w.boot(), api.OK)
			if n := len(w.s.State()); (n == 1) != synced {
				t.Errorf("synced %v: %d keys", synced, n)
			}
			if len(w.s.Ran()) != 0 || len(w.s.Talks()) != 0 {
				t.Error("a life begins with what was ahead")
			}
			_, e := w.take(1, 0, [16]byte{}, c.seal("x"))
			w.tells("a connection of the life ahead", e, api.ENONE)
		}
	})
}

// DOC's examples 4 and 5: files of before, and a log that is cut.
func TestExamplesTampered(t *testing.T) {
	both(t, func(t *testing.T, ideal bool) {
		w := booted(t, ideal, wide())
		c := w.call(1).says("SET k 1")
		w.synced(c)
		old := w.got.d.Image()
		w.synced(c.says("SET k 2"))
		fresh := w.got.d.Image()
		w.crash()
		w.each(func(x world) { x.d.Load(old) })
		w.tells("files of before", w.boot(), api.ETAMPER)
		w.each(func(x world) { x.d.Load(fresh) })
		w.each(func(x world) {
			b, _ := x.d.Read("log.1.1")
			x.d.Edit("log.1.1", b[:len(b)-1])
		})
		w.tells("a log that is cut", w.boot(), api.ETAMPER)
		w.each(func(x world) { x.d.Load(fresh) })
		w.tells("the files themselves", w.boot(), api.OK)
	})
}

// DOC's examples 6 and 7: a frame, and a hello, that are brought twice.
func TestExamplesTwice(t *testing.T) {
	both(t, func(t *testing.T, ideal bool) {
		w := booted(t, ideal, wide())
		c := w.call(1)
		frame := c.seal(command("INCR k"))
		for _, want := range []api.Errno{api.OK, api.EAUTH, api.ENONE} {
			_, e := w.take(1, 0, [16]byte{}, frame)
			w.tells("a frame", e, want)
		}
		d := w.caller(2)
		first, _ := w.take(2, 0, [16]byte{}, d.hello)
		second, _ := w.take(2, 0, [16]byte{}, d.hello)
		if slices.Equal(first, second) {
			t.Fatal("two connections have one answer")
		}
		finish := d.answers(second)
		_, e := w.take(2, 0, [16]byte{}, finish)
		w.tells("the second one's finish", e, api.OK)
		if d.keys != (shake.Keys{Life: 1, Conn: 2, Peer: 1}) {
			t.Errorf("%v", d.keys)
		}
		first, _ = w.take(2, 0, [16]byte{}, d.hello)
		_, e = w.take(2, 0, [16]byte{}, finish)
		w.tells("a finish of the connection ahead", e, api.EAUTH)
	})
}

// DOC's examples 8 to 10: EXEC, a rewrite that turns, and a pin that is spent.
func TestExamplesWhole(t *testing.T) {
	both(t, func(t *testing.T, ideal bool) {
		w := booted(t, ideal, wide())
		c := w.call(0).says("MULTI", "INCR k", "INCR k", "EXEC")
		w.synced(c)
		c.heard("+OK|+QUEUED|+QUEUED|*2|:1|:2|")
		if r := w.s.Ran(); len(r) != 1 || len(r[0].Commands) != 2 {
			t.Errorf("%v", r)
		}
		_, e := w.rewrite(true)
		w.tells("rewrite", e, api.OK)
		if n := w.got.d.Names(); !slices.Equal(n, []string{"head", "log.1.2", "snap.1.2"}) {
			t.Errorf("%q", n)
		}
		bounds := wide()
		bounds.Pin = 1
		w = booted(t, ideal, bounds)
		c = w.call(0).says("SET k 1")
		for range 3 {
			outs, e := w.sync()
			if e != api.ESPENT || len(outs) != 0 || !w.s.Up() {
				t.Errorf("%d, %v, %v", e, outs, w.s.Up())
			}
		}
	})
}

// P25.4: time goes on, and what goes by then goes.
func TestTick(t *testing.T) {
	w := booted(t, true, wide())
	c := w.call(0).says("SET k 1 PX 10", "SET b 1", "PEXPIREAT b 1099511627776")
	for _, x := range []struct{ n, now, keys int }{{0, 5, 2}, {-1, 5, 2}, {math.MinInt, 5, 2}, {9, 14, 2}, {1, 15, 1}, {1 << 39, 1<<39 + 15, 1}, {1<<39 - 16, 1<<40 - 1, 1}, {1, 1 << 40, 0}, {1, 1 << 40, 0}, {math.MaxInt, 1 << 40, 0}} {
		w.tick(x.n)
		if w.s.Now() != x.now || len(w.s.State()) != x.keys {
			t.Errorf("tick of %d: %d, %v", x.n, w.s.Now(), w.s.State())
		}
	}
	for _, n := range []int{math.MaxInt, 1 << 40, 1<<40 - 5, 1<<40 - 4, 1 << 41} {
		w := booted(t, true, wide())
		w.tick(n)
		if w.s.Now() != 1<<40 {
			t.Errorf("tick of %d: %d", n, w.s.Now())
		}
	}
	w.synced(c.says("SET x 1 PX 1", "EXPIRE x 1"))
	if n := w.s.Ran(); n[len(n)-1].Now != 5 {
		t.Errorf("%v", n)
	}
}

// P25.4: the time of a command is the server's, its draw that of the frame.
func TestTimeAndDraw(t *testing.T) {
	w := booted(t, true, wide())
	c := w.call(0)
	for i, draw := range []int{0, 1, -1, math.MaxInt, math.MinInt, 4} {
		w.tick(i)
		text := command("SADD s a b c d e") + command("SPOP s") + command("SRANDMEMBER s") + command("PEXPIRE s 100")
		_, e := w.take(0, draw, [16]byte{}, c.seal(text))
		w.tells("commands", e, api.OK)
		r := w.s.Ran()
		for _, g := range r[len(r)-3:] {
			if g.Now != w.s.Now() || g.Draw != draw {
				t.Errorf("%v at %d, %d", g, w.s.Now(), draw)
			}
		}
	}
	if w.s.Now() != 20 {
		t.Errorf("%d", w.s.Now())
	}
}

// P25.4: what is told of connections: those that ever had a pipe, in the order in which they got it, whatever became of them.
func TestTalks(t *testing.T) {
	both(t, func(t *testing.T, ideal bool) {
		w := booted(t, ideal, wide())
		a, finishA := w.dialled(0)
		b, finishB := w.dialled(1)
		w.dialled(2)
		if len(w.s.Talks()) != 0 {
			t.Error("talks that are not finished are told")
		}
		w.take(1, 0, [16]byte{}, finishB)
		w.take(0, 0, [16]byte{}, finishA)
		a.says("SET k 1")
		b.says("GET k").says("PING")
		w.synced(a, b)
		a.says("GET k")
		_, e := w.close(0)
		w.tells("close", e, api.OK)
		d := w.call(1)
		d.says("PING")
		talks := w.s.Talks()
		want := []serve.Talk{
			{Keys: b.keys, Heard: []byte(command("GET k") + command("PING")), Told: []byte("$1\r\n1\r\n+PONG\r\n")},
			{Keys: a.keys, Heard: []byte(command("SET k 1") + command("GET k")), Told: []byte("+OK\r\n")},
			{Keys: d.keys, Heard: []byte(command("PING"))},
		}
		if show(talks) != show(want) {
			t.Errorf("%v, want %v", talks, want)
		}
		if a.keys != (shake.Keys{Life: 1, Conn: 0, Peer: 0}) || b.keys != (shake.Keys{Life: 1, Conn: 1, Peer: 1}) || d.keys != (shake.Keys{Life: 1, Conn: 3, Peer: 3}) {
			t.Errorf("%v, %v, %v", a.keys, b.keys, d.keys)
		}
		_, e = w.take(1, 0, [16]byte{}, []byte{4})
		w.tells("no frame", e, api.EAUTH)
		if show(w.s.Talks()) != show(want) {
			t.Errorf("%v, want %v", w.s.Talks(), want)
		}
	})
}

// Rule 4: what is told is new memory.
func TestOwnMemory(t *testing.T) {
	w := booted(t, true, wide())
	c := w.call(0).says("RPUSH k a b", "SET b 1")
	w.synced(c)
	for _, g := range w.s.Ran() {
		for _, args := range g.Commands {
			args[0] = "spoilt"
		}
		g.Commands[0] = nil
	}
	for _, talk := range w.s.Talks() {
		clear(talk.Heard)
		clear(talk.Told)
		_ = append(append(talk.Heard[:0:cap(talk.Heard)], "spoilt"...), make([]byte, cap(talk.Heard))...)
	}
	for _, e := range w.s.State() {
		for i := range e.Val.List {
			e.Val.List[i] = "spoilt"
		}
	}
	w.sameServers("behind all that was told was spoilt")
	c.says("SET b 2")
	a, b := w.s.Talks(), w.s.Talks()
	_ = append(a[0].Heard, "spoilt"...)
	_ = append(a[0].Told, "spoilt"...)
	c.says("GET b")
	w.synced(c)
	if show(a) != show(b) || strings.Contains(string(w.s.Talks()[0].Heard), "spoilt") {
		t.Error("what was told changed")
	}
}

// P25.4, rule 6: of a server that Boot did not make.
func TestNoServer(t *testing.T) {
	for name, s := range map[string]*serve.Server{"nil": nil, "new": new(serve.Server)} {
		for _, way := range []int{-1, 0, 5, 6} {
			for _, frame := range [][]byte{nil, {1}, {4}, make([]byte, 25), append([]byte{1}, make([]byte, 24)...)} {
				if b, e := s.Take(way, 0, [16]byte{}, frame); len(b) != 0 || e != api.ENIL {
					t.Errorf("%s: take %x, %d", name, b, e)
				}
			}
			if b, e := s.Close(way); len(b) != 0 || e != api.ENIL {
				t.Errorf("%s: close %x, %d", name, b, e)
			}
		}
		for range 2 {
			if l, e := s.Sync(); len(l) != 0 || e != api.ENIL {
				t.Errorf("%s: sync %v, %d", name, l, e)
			}
			if l, e := s.Rewrite(true); len(l) != 0 || e != api.ENIL {
				t.Errorf("%s: rewrite %v, %d", name, l, e)
			}
			if s.Now() != 0 || s.Up() || len(s.State()) != 0 || len(s.Ran()) != 0 || len(s.Talks()) != 0 {
				t.Errorf("%s: %d, %v, %v, %v, %v", name, s.Now(), s.Up(), s.State(), s.Ran(), s.Talks())
			}
			s.Tick(5)
		}
	}
}
