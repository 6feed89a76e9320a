package serve_test

import (
	"fmt"
	"math"
	"slices"
	"strings"
	"testing"

	"intaglio/api"
)

// sealed is how much was sealed.
func (w *twin) sealed() int { return w.got.b.Sealed() }

// brings lets a frame come, and asks what is told.
func (w *twin) brings(what string, way int, frame []byte, want api.Errno) {
	w.Helper()
	answer, e := w.take(way, 0, [16]byte{}, frame)
	if e != want || (len(answer) > 0) != (e == api.OK && len(frame) > 0 && frame[0] == 1) {
		w.Fatalf("%s on the way %d: %d, %x, want %d", what, way, e, answer, want)
	}
}

// others are frames that are neither a hello nor sealed by anybody.
func others() [][]byte {
	return [][]byte{nil, {0}, {2}, {3}, {4}, {5}, {255}, make([]byte, 65), append([]byte{3}, make([]byte, 32)...), append([]byte{4}, make([]byte, 17)...), append([]byte{4}, make([]byte, 16)...)}
}

// P25.2: each way from -1 to 6.
func TestWays(t *testing.T) {
	both(t, func(t *testing.T, ideal bool) {
		w := booted(t, ideal, wide())
		for _, way := range []int{-1, 6, 7, math.MinInt, math.MaxInt, 1 << 32} {
			c := w.caller(0)
			for _, frame := range append(others(), c.hello) {
				w.brings("a frame", way, frame, api.EARG)
			}
			_, e := w.close(way)
			w.tells("close", e, api.EARG)
		}
		var l []*client
		for way := range 6 {
			for _, frame := range others() {
				w.brings("a frame where no connection is", way, frame, api.ENONE)
			}
			_, e := w.close(way)
			w.tells("close where no connection is", e, api.ENONE)
			l = append(l, w.call(way).says(fmt.Sprint("ECHO ", way)))
		}
		w.synced(l...)
		for way, c := range l {
			c.heard(fmt.Sprint("$1|", way, "|"))
		}
	})
}

// P25.2: a talk that is not finished ends by any frame that does not finish it.
func TestFinish(t *testing.T) {
	both(t, func(t *testing.T, ideal bool) {
		w := booted(t, ideal, wide())
		frames := append(others(), []byte{3, 1}, append([]byte{3}, make([]byte, 33)...))
		for _, frame := range frames {
			c, finish := w.dialled(2)
			_, e := w.close(2)
			w.tells("close of a talk that is not finished", e, api.ENONE)
			want := api.EFORM
			if len(frame) == 33 && frame[0] == 3 {
				want = api.EAUTH
			}
			w.brings("no finish", 2, frame, want)
			w.brings("the finish behind it", 2, finish, api.ENONE)
			_ = c
		}
		_, finish := w.dialled(2)
		for i := range finish {
			if i == 0 { // its kind
				continue
			}
			_, finish := w.dialled(2)
			finish[i] ^= 1
			w.brings("a finish that is turned", 2, finish, api.EAUTH)
		}
		w.brings("a finish of before", 2, finish, api.ENONE)
		// Of another way, and of a connection ahead.
		_, a := w.dialled(1)
		_, b := w.dialled(2)
		w.brings("a finish of the way 2", 1, b, api.EAUTH)
		w.brings("a finish behind it", 1, a, api.ENONE)
		w.brings("its own", 2, b, api.OK)
		if n := len(w.s.Talks()); n != 1 {
			t.Errorf("%d talks", n)
		}
		w.brings("a finish of a pipe", 2, b, api.EAUTH)
	})
}

// P25.2: a hello begins a connection in the place of the one that was there; one that is none changes nothing.
func TestHello(t *testing.T) {
	both(t, func(t *testing.T, ideal bool) {
		w := booted(t, ideal, wide())
		good := w.caller(0).hello
		none := [][]byte{{1}, good[:24], append(slices.Clone(good), 0), append([]byte{1, 255}, good[2:]...)}
		for _, frame := range none {
			w.brings("no hello", 0, frame, api.EFORM)
			w.brings("a frame behind it", 0, []byte{4}, api.ENONE)
		}
		c, finish := w.dialled(0)
		if c.keys.Conn != 0 {
			t.Errorf("hellos that are none were counted: %v", c.keys)
		}
		for _, frame := range none {
			w.brings("no hello", 0, frame, api.EFORM)
		}
		w.brings("the finish", 0, finish, api.OK)
		c.says("SET k 1")
		for _, frame := range none {
			w.brings("no hello", 0, frame, api.EFORM)
		}
		c.says("GET k")
		w.synced(c)
		c.heard("+OK|$1|1|")
		// Replies of the connection that was there are never sent.
		c.says("GET k")
		d, finish := w.dialled(0)
		_, e := w.close(0)
		w.tells("close", e, api.ENONE)
		w.brings("the finish", 0, finish, api.OK)
		outs, e := w.sync()
		w.tells("sync", e, api.OK)
		if len(outs) != 0 || d.keys.Conn != 1 {
			t.Errorf("%v, %v", outs, d.keys)
		}
		w.brings("a frame of the connection that was there", 0, c.seal("x"), api.EAUTH)
	})
}

// P25.2: the bound of connections: 0, below it, reached and passed; it counts what was begun, in each life anew.
func TestMostConnections(t *testing.T) {
	for _, x := range []struct{ bound, want int }{{math.MinInt, 0}, {-1, 0}, {0, 0}, {1, 1}, {2, 2}, {5, 5}, {1 << 40, 9}, {1<<40 + 1, 9}, {math.MaxInt, 9}} {
		bounds := wide()
		bounds.Conn = x.bound
		w := booted(t, true, bounds)
		for range 2 {
			n := 0
			for i := range 9 {
				c := w.caller(i % 2)
				answer, e := w.take(i%2, 0, [16]byte{}, c.hello)
				if e == api.OK {
					w.brings("the finish", i%2, c.answers(answer), api.OK)
					if c.keys.Conn != n || c.keys.Life != w.got.c.Life() {
						t.Errorf("%v, %d were ahead", c.keys, n)
					}
					n++
					continue
				}
				w.tells("a hello", e, api.ESPENT)
				w.brings("no hello", i%2, []byte{1}, api.ESPENT)
			}
			if n != x.want {
				t.Errorf("bound %d: %d", x.bound, n)
			}
			if x.want == 1 { // what is there goes on
				w.brings("a frame", 0, w.caller(0).hello, api.ESPENT)
				_, e := w.close(0)
				w.tells("close", e, api.OK)
			}
			w.crash()
			w.tells("boot", w.boot(), api.OK)
		}
	}
}

// P25.2: frames that are left out, doubled, turned, of another way, of an earlier connection, end the connection, and change nothing else.
func TestOtherFrames(t *testing.T) {
	both(t, func(t *testing.T, ideal bool) {
		w := booted(t, ideal, wide())
		old := w.call(0)
		earlier := old.seal(command("INCR k"))
		other := w.call(1)
		for name, frame := range map[string]func(c *client) []byte{
			"left out":              func(c *client) []byte { c.seal(command("INCR k")); return c.seal(command("INCR k")) },
			"doubled":               func(c *client) []byte { f := c.seal(command("PING")); w.brings("first", 0, f, api.OK); return f },
			"turned":                func(c *client) []byte { f := c.seal(command("INCR k")); f[len(f)-1] ^= 1; return f },
			"turned at first":       func(c *client) []byte { f := c.seal(command("INCR k")); f[0] = 5; return f },
			"cut":                   func(c *client) []byte { f := c.seal(command("INCR k")); return f[:len(f)-1] },
			"longer":                func(c *client) []byte { return append(c.seal(command("INCR k")), 0) },
			"empty":                 func(c *client) []byte { return nil },
			"of another way":        func(c *client) []byte { return other.seal(command("INCR k")) },
			"of another connection": func(c *client) []byte { return earlier },
		} {
			c := w.call(0).says("ECHO x")
			frame := frame(c)
			ran, state, sealed := len(w.s.Ran()), show(w.s.State()), w.sealed()
			w.brings(name, 0, frame, api.EAUTH)
			if len(w.s.Ran()) != ran || show(w.s.State()) != state || w.sealed() != sealed {
				t.Errorf("%s: something was done", name)
			}
			w.brings(name+", and another one", 0, c.seal("x"), api.ENONE)
			_, e := w.close(0)
			w.tells("close", e, api.ENONE)
			if outs, e := w.sync(); e != api.OK || len(outs) != 0 {
				t.Errorf("%s: %v", name, outs)
			}
		}
		w.has("all", []string{}...)
	})
}

// P25.2: the client's last frame ends the connection; its replies are not sent.
func TestClientCloses(t *testing.T) {
	both(t, func(t *testing.T, ideal bool) {
		w := booted(t, ideal, wide())
		c := w.call(3).says("SET k 1")
		w.brings("close", 3, c.hang(), api.ECLOSED)
		w.brings("a frame", 3, []byte{4}, api.ENONE)
		outs, e := w.sync()
		if e != api.OK || len(outs) != 0 {
			t.Errorf("%d, %v", e, outs)
		}
		w.has("all", "k")
	})
}

// P25.2: a connection whose numbers are spent ends.
func TestSpentPipe(t *testing.T) {
	both(t, func(t *testing.T, ideal bool) {
		bounds := wide()
		bounds.Seq, bounds.Epoch = 2, 1
		w := booted(t, ideal, bounds)
		c := w.call(0)
		for range 4 {
			c.says("INCR k")
			w.synced(c)
		}
		c.heard(":1|:2|:3|:4|")
		if _, e := c.ends[0].Seal(nil); e != api.ESPENT {
			t.Errorf("%d", e)
		}
		w.brings("one more", 0, append([]byte{4}, make([]byte, 17)...), api.ESPENT)
		w.brings("and another one", 0, []byte{4}, api.ENONE)
		// What the server seals is spent: the connection ends, other ones go on, and all of this lasts.
		bounds.Seq, bounds.Epoch = 1, 0
		w = booted(t, ideal, bounds)
		a, b := w.call(0), w.call(1)
		a.says("SET k 1")
		w.synced(a)
		a.heard("+OK|")
		_, e := w.close(0)
		w.tells("close", e, api.ESPENT)
		_, e = w.close(0)
		w.tells("close", e, api.ENONE)
		b.says("GET k")
		w.synced(b)
		b.heard("$1|1|")
		bounds.Seq, bounds.Epoch = 0, 0
		w = booted(t, ideal, bounds)
		w.call(0)
		w.brings("a frame", 0, []byte{4}, api.ESPENT)
	})
}

// P25.2: a connection whose pipe tells an error at the second of several frames.
func TestSpentWhileSending(t *testing.T) {
	bounds := wide()
	bounds.Seq, bounds.Epoch = 2, 0
	w := booted(t, true, bounds)
	a, b := w.call(0), w.call(1)
	a.says("APPEND k "+strings.Repeat("x", 500), "SETRANGE k 511 y")
	w.synced(a)
	a.heard(":500|:512|")
	var l []string
	for range 120 {
		l = append(l, "GET k")
	}
	a.says(l...)
	b.says("PING")
	outs, e := w.sync()
	if e != api.OK || len(outs) != 2 || outs[0].Way != 0 || outs[1].Way != 1 {
		t.Fatalf("%d, %d frames", e, len(outs))
	}
	a.opens(outs)
	b.opens(outs)
	if n := len(a.opened); n != 50000+6+6 {
		t.Errorf("%d bytes", n)
	}
	if n := len(w.s.Talks()[0].Told); n != 50000+6+6 {
		t.Errorf("%d bytes are told of", n)
	}
	w.brings("behind it", 0, []byte{4}, api.ENONE)
	b.says("PING")
	w.synced(b)
}

// P25.2: commands in pieces, several in one text, and none.
func TestPieces(t *testing.T) {
	both(t, func(t *testing.T, ideal bool) {
		w := booted(t, ideal, wide())
		c := w.call(0)
		all := command("SET k 1") + command("INCR k") + "*0\r\n" + command("GET k")
		for i := range all {
			c.tells("a byte", c.texts(all[i:i+1]), api.OK)
		}
		c.tells("no byte", c.texts(""), api.OK)
		w.synced(c)
		c.heard("+OK|:2|$1|2|")
		c.tells("two and a half", c.texts(all, all, all[:9]), api.OK)
		w.synced(c)
		c.heard("+OK|:2|$1|2|+OK|:2|$1|2|")
		c.tells("the rest", c.texts(all[9:]), api.OK)
		w.synced(c)
		c.heard("+OK|:2|$1|2|")
	})
}

// P25.2: behind a fault of the parser: its reply, and the end of the connection when that is sent.
func TestFault(t *testing.T) {
	both(t, func(t *testing.T, ideal bool) {
		for _, fault := range []string{"x\r\n", "*41\r\n", "*1\r\n$513\r\n", "*x", strings.Repeat("*", 16), "*1\r\n$1\r\nxyz"} {
			w := booted(t, ideal, wide())
			c, d := w.call(0), w.call(1)
			d.says("PING")
			c.tells("a fault", c.texts(command("SET k 1"), fault, strings.Repeat("x", 20), command("SET k 2")), api.OK)
			_, open := w.dialled(2)
			w.brings("whatever comes then", 0, c.seal(command("SET k 3")), api.ENONE)
			w.brings("whatever comes then", 0, []byte{4}, api.ENONE)
			w.synced(c, d)
			c.heard("+OK|-ERR protocol error|")
			d.heard("+PONG|")
			w.brings("whatever comes then", 0, c.seal("x"), api.ENONE)
			_, e := w.close(0)
			w.tells("close", e, api.ENONE)
			w.brings("of another one", 2, open, api.OK)
			if l := w.s.State(); len(l) != 1 || l[0].Val.Text != "1" {
				t.Errorf("%v", l)
			}
			// What came behind the fault was opened all the same, what came behind that frame was not.
			if h := string(w.s.Talks()[0].Heard); !strings.HasSuffix(h, command("SET k 2")) {
				t.Errorf("%q", h)
			}
		}
		// Its reply waits as others do, and may be closed away, or replaced.
		w := booted(t, ideal, wide())
		c := w.call(0)
		c.tells("a fault", c.texts("x\r\n"), api.OK)
		frame, e := w.close(0)
		w.tells("close", e, api.OK)
		if _, e := c.ends[0].Open(frame); e != api.ECLOSED {
			t.Errorf("%d", e)
		}
		c = w.call(0)
		c.tells("a fault", c.texts("x\r\n"), api.OK)
		w.brings("no hello", 0, []byte{1}, api.EFORM)
		d := w.call(0).says("PING")
		w.synced(d)
		d.heard("+PONG|")
		d.tells("a fault", d.texts("x\r\n"), api.OK)
		outs, e := w.rewrite(false)
		w.tells("rewrite", e, api.OK)
		d.opens(outs)
		d.heard("-ERR protocol error|")
		w.brings("behind it", 0, d.seal("x"), api.ENONE)
	})
}

// P25.2, P24.1: each connection has a session of its own.
func TestSessions(t *testing.T) {
	both(t, func(t *testing.T, ideal bool) {
		w := booted(t, ideal, wide())
		a, b := w.call(0), w.call(1)
		a.says("WATCH k", "MULTI", "SET k a")
		b.says("EXEC", "SET k b", "WATCH k", "MULTI", "INCR n")
		a.says("EXEC", "GET k")
		b.says("EXEC")
		w.synced(a, b)
		a.heard("+OK|+OK|+QUEUED|*-1|$1|b|")
		b.heard("-ERR EXEC without MULTI|+OK|+OK|+OK|+QUEUED|*1|:1|")
		if r := w.s.Ran(); len(r) != 2 {
			t.Errorf("%v", r)
		}
		// A new connection has nothing open.
		a.says("MULTI")
		a = w.call(0).says("EXEC")
		w.synced(a)
		a.heard("-ERR EXEC without MULTI|")
	})
}
