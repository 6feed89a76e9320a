package serve_test

import (
	"fmt"
	"math"
	"slices"
	"strings"
	"testing"

	"intaglio/api"
	"intaglio/vault"
)

// files asks for the names of all files: those of a generation, and head.
func (w *twin) files(life, gen int) {
	w.Helper()
	snap, log := vault.Names(life, gen)
	if got := w.got.d.Names(); !slices.Equal(got, []string{"head", log, snap}) {
		w.Fatalf("files %q, want those of %d, %d", got, life, gen)
	}
}

// small is bounds by which a log takes n commands.
func small(n int) api.Bounds {
	b := wide()
	b.Nonce = n + 2
	return b
}

// P25.3: a vault that is full is rewritten by itself, ahead of what would change something, and only then.
func TestRewrittenByItself(t *testing.T) {
	both(t, func(t *testing.T, ideal bool) {
		for _, x := range []struct {
			command string
			rewrite bool
		}{
			{"SET k 1", true}, {"set k 1", true}, {"DEL none", true}, {"INCR k", true}, {"EXEC", true}, {"exec", true}, {"FLUSHALL", true}, {"SET k", true}, {"EXEC x", true}, {"SADD a 1", true},
			{"GET k", false}, {"PING", false}, {"MULTI", false}, {"DISCARD", false}, {"WATCH k", false}, {"UNWATCH", false}, {"NOPE", false}, {"GET", false}, {"DBSIZE", false},
		} {
			w := booted(t, ideal, small(2))
			c := w.call(0).says("SET a 1", "SET b 1")
			w.files(1, 1)
			c.says(x.command)
			if x.rewrite {
				w.files(1, 2)
			} else {
				w.files(1, 1)
			}
			if w.sealed() > 30 {
				t.Errorf("%s: %d sealed", x.command, w.sealed())
			}
			// The replies wait still.
			w.synced(c)
			if got := string(c.opened); !strings.HasPrefix(got, "+OK\r\n+OK\r\n") || len(got) < 14 {
				t.Errorf("%s: %q", x.command, got)
			}
		}
	})
}

// P25.3: a queue's commands ask for room as they come; EXEC needs it once.
func TestRewrittenInQueue(t *testing.T) {
	w := booted(t, true, small(1))
	c := w.call(0).says("MULTI", "SET a 1", "SET b 1", "EXEC")
	w.files(1, 1)
	c.says("MULTI", "GET a")
	w.files(1, 1)
	c.says("SET c 1")
	w.files(1, 2)
	c.says("SET d 1", "DEL a")
	w.files(1, 2)
	c.says("EXEC")
	w.files(1, 2)
	c.says("EXEC")
	w.files(1, 3)
	w.synced(c)
	c.heard("+OK|+QUEUED|+QUEUED|*2|+OK|+OK|", "+OK|+QUEUED|+QUEUED|+QUEUED|+QUEUED|*4|$1|1|+OK|+OK|:1|", "-ERR EXEC without MULTI|")
	w.crash()
	w.tells("boot", w.boot(), api.OK)
	w.has("boot", "b", "c", "d")
}

// P25.3, P25.5: what was ahead of a rewrite lasts by it, and is told by the next Sync.
func TestRewrittenLasts(t *testing.T) {
	both(t, func(t *testing.T, ideal bool) {
		w := booted(t, ideal, small(2))
		c := w.call(0).says("SET a 1", "SET b 1", "SET c 1")
		w.crash()
		w.tells("boot", w.boot(), api.OK)
		w.has("boot", "a", "b")
		c = w.call(0).says("SET d 1", "SET e 1", "SET f 1", "SET g 1", "SET h 1")
		w.synced(c)
		c.heard("+OK|+OK|+OK|+OK|+OK|")
		w.crash()
		w.tells("boot", w.boot(), api.OK)
		w.has("boot", "a", "b", "d", "e", "f", "g", "h")
	})
}

// P25.3: a vault that is full still: nothing is done, what reads goes on.
func TestExhausted(t *testing.T) {
	for name, change := range map[string]func(b *api.Bounds){
		"no room by a rewrite": func(b *api.Bounds) { b.Nonce = 2 },
		"no room at all":       func(b *api.Bounds) { b.Nonce = 1 },
		"gen":                  func(b *api.Bounds) { b.Nonce, b.Gen = 2, 1 },
		"pin":                  func(b *api.Bounds) { b.Nonce, b.Pin = 2, 1 },
	} {
		bounds := wide()
		change(&bounds)
		w := booted(t, true, bounds)
		c := w.call(0).says("SET k 1", "GET k", "MULTI", "SET k 1", "EXEC", "GET k", "EXEC", "DISCARD", "EXEC", "EXEC x", "SET k")
		w.synced(c)
		exhausted := "-ERR exhausted|"
		c.heard(exhausted, "$-1|+OK|", exhausted, exhausted, "+QUEUED|", exhausted, "+OK|", strings.Repeat(exhausted, 3))
		if len(w.s.State()) != 0 || len(w.s.Ran()) != 0 || !w.s.Up() {
			t.Errorf("%s: %v, %v", name, w.s.State(), w.s.Ran())
		}
	}
	// A queue that is told so is open still, and is done when there is room.
	bounds := small(2)
	bounds.Gen = 1
	w := booted(t, true, bounds)
	c, d := w.call(0).says("WATCH k", "MULTI", "INCR k", "INCR k"), w.call(1)
	d.says("SET a 1", "SET b 1", "SET c 1")
	c.says("EXEC", "INCR k", "GET a", "EXEC")
	w.synced(c, d)
	d.heard("+OK|+OK|-ERR exhausted|")
	c.heard("+OK|+OK|+QUEUED|+QUEUED|-ERR exhausted|-ERR exhausted|+QUEUED|-ERR exhausted|")
	_, e := w.rewrite(false)
	w.tells("rewrite", e, api.ESPENT)
	w.has("all", "a", "b")
}

// P25.3: Sync with nothing, with replies of several ways, and of talks that are not finished.
func TestSync(t *testing.T) {
	both(t, func(t *testing.T, ideal bool) {
		w := booted(t, ideal, wide())
		ways := func(want ...int) {
			t.Helper()
			outs, e := w.sync()
			w.tells("sync", e, api.OK)
			var got []int
			for _, o := range outs {
				got = append(got, o.Way)
			}
			if !slices.Equal(got, want) {
				t.Fatalf("frames on the ways %v, want %v", got, want)
			}
		}
		ways()
		w.dialled(2)
		var l []*client
		for _, way := range []int{5, 0, 3, 1} {
			l = append(l, w.call(way))
		}
		ways()
		for i, c := range l {
			c.says("PING", fmt.Sprint("ECHO ", i))
		}
		ways(0, 1, 3, 5)
		ways()
		l[2].says("PING")
		l[0].says("SET k 1")
		w.dialled(5)
		ways(3)
		ways()
	})
}

// P25.3: replies go in texts of 50000 bytes, the last one may have fewer.
func TestLongReplies(t *testing.T) {
	both(t, func(t *testing.T, ideal bool) {
		for _, n := range []int{49999, 50000, 50001, 99999, 100000, 100001, 150000} {
			w := booted(t, ideal, wide())
			c := w.call(0).says("SET k " + strings.Repeat("x", 490)) // +OK has 5 bytes, GET k 498
			w.synced(c)
			rest := n
			for rest > 1000 {
				c.says("GET k")
				rest -= 498
			}
			for _, part := range []int{rest / 2, rest - rest/2} { // $nnn, 13 10, the text, 13 10
				c.says("ECHO " + strings.Repeat("y", part-8))
			}
			outs, e := w.sync()
			w.tells("sync", e, api.OK)
			if len(outs) != (n+49999)/50000 {
				t.Fatalf("%d bytes: %d frames", n, len(outs))
			}
			for i, o := range outs {
				if want := min(50000, n-50000*i) + 18; len(o.Frame) != want {
					t.Errorf("%d bytes: frame %d has %d, want %d", n, i, len(o.Frame), want)
				}
			}
			c.opens(outs)
			if len(c.opened) != n+5 {
				t.Errorf("%d bytes were opened, want %d", len(c.opened), n+5)
			}
		}
	})
}

// P25.3: Rewrite with and without turn: a new generation, of all that is there; replies are sent.
func TestRewrite(t *testing.T) {
	both(t, func(t *testing.T, ideal bool) {
		w := booted(t, ideal, wide())
		old := w.got.d.Image()
		c := w.call(4)
		for i, turn := range []bool{false, true, true, false} {
			c.says(fmt.Sprint("SET k", i, " 1"))
			outs, e := w.rewrite(turn)
			w.tells("rewrite", e, api.OK)
			c.opens(outs)
			c.heard("+OK|")
			w.files(1, i+2)
		}
		outs, e := w.rewrite(true)
		w.tells("rewrite of nothing", e, api.OK)
		if len(outs) != 0 {
			t.Errorf("%v", outs)
		}
		w.crash()
		w.tells("boot", w.boot(), api.OK)
		w.has("boot", "k0", "k1", "k2", "k3")
		w.each(func(x world) { x.d.Load(old) })
		w.tells("boot of files of before", w.boot(), api.ETAMPER)
		bounds := wide()
		bounds.Epoch = 1
		w = booted(t, ideal, bounds)
		c = w.call(4).says("PING")
		for i, x := range []struct {
			turn bool
			want api.Errno
		}{{true, api.OK}, {true, api.ESPENT}, {false, api.OK}, {true, api.ESPENT}} {
			outs, e := w.rewrite(x.turn)
			w.tells("rewrite", e, x.want)
			if (len(outs) > 0) != (i == 0) || !w.s.Up() {
				t.Errorf("%d: %v, %v", i, outs, w.s.Up())
			}
			if e == api.OK && i > 0 {
				c.opens(outs)
			}
		}
	})
}

// P25.3: what a Sync or Rewrite that tells ESPENT did not send is sent by the next one that goes well.
func TestSpentThenSent(t *testing.T) {
	bounds := wide()
	bounds.Epoch = 0
	w := booted(t, true, bounds)
	c := w.call(0).says("SET k 1")
	for range 3 {
		outs, e := w.rewrite(true)
		if e != api.ESPENT || len(outs) != 0 {
			t.Fatalf("%d, %v", e, outs)
		}
	}
	w.synced(c.says("GET k"))
	c.heard("+OK|$1|1|")
	// Without anything that must last, all goes on at the bound of pins.
	bounds.Pin = 2
	w = booted(t, true, bounds)
	c = w.call(0)
	w.synced(c.says("SET k 1"))
	w.synced(c.says("GET k"))
	c.heard("+OK|$1|1|")
	c.says("SET k 2")
	_, e := w.sync()
	w.tells("sync", e, api.ESPENT)
	c.says("GET k")
	_, e = w.sync()
	w.tells("sync", e, api.ESPENT)
	w.crash()
	w.bounds = wide()
	w.tells("boot", w.boot(), api.OK)
	if l := w.s.State(); len(l) != 1 || l[0].Val.Text != "1" {
		t.Errorf("%v", l)
	}
}

// P25.3: Close of each way in each state.
func TestClose(t *testing.T) {
	both(t, func(t *testing.T, ideal bool) {
		w := booted(t, ideal, wide())
		for way := range 6 {
			c, finish := w.dialled(way)
			_, e := w.close(way)
			w.tells("ahead of the finish", e, api.ENONE)
			w.brings("the finish", way, finish, api.OK)
			if way%2 == 1 {
				c.says("SET k 1", "PING")
			}
			frame, e := w.close(way)
			w.tells("close", e, api.OK)
			for _, end := range c.ends {
				if text, e := end.Open(frame); e != api.ECLOSED || len(text) != 0 {
					t.Errorf("%q, %d", text, e)
				}
			}
			_, e = w.close(way)
			w.tells("close once more", e, api.ENONE)
			w.brings("a frame behind it", way, []byte{4}, api.ENONE)
			outs, e := w.sync()
			if e != api.OK || len(outs) != 0 {
				t.Errorf("%d, %v", e, outs)
			}
		}
		w.has("what was done is done", "k")
	})
}

// isDown asks what each call tells of a server that is down.
func (w *twin) isDown(what string) {
	w.Helper()
	ran, state, talks, sealed := show(w.s.Ran()), show(w.s.State()), show(w.s.Talks()), w.sealed()
	hello := w.caller(0).hello
	for range 2 {
		for way := -1; way <= 6; way++ {
			want := api.ESTATE
			if way < 0 || way > 5 {
				want = api.EARG
			}
			for _, frame := range append(others(), hello) {
				_, e := w.take(way, 0, [16]byte{}, frame)
				w.tells(what+": take", e, want)
			}
			_, e := w.close(way)
			w.tells(what+": close", e, want)
		}
		if outs, e := w.sync(); e != api.ESTATE || len(outs) != 0 {
			w.Fatalf("%s: sync %d, %v", what, e, outs)
		}
		if outs, e := w.rewrite(true); e != api.ESTATE || len(outs) != 0 {
			w.Fatalf("%s: rewrite %d, %v", what, e, outs)
		}
		if w.s.Up() {
			w.Fatalf("%s: it is up", what)
		}
		w.each(func(x world) { x.p.Mend(); x.q.Mend() }) // power that comes again makes no difference
	}
	if show(w.s.Ran()) != ran || show(w.s.State()) != state || show(w.s.Talks()) != talks || w.sealed() != sealed {
		w.Fatalf("%s: what is told of it changed", what)
	}
	now := w.s.Now()
	w.tick(7)
	if w.s.Now() != now+7 {
		w.Fatalf("%s: the time is %d", what, w.s.Now())
	}
}

// P25.3: an error of the vault at each of its steps: it is told, and the server is down.
func TestDown(t *testing.T) {
	both(t, func(t *testing.T, ideal bool) {
		for name, x := range map[string]struct {
			acts int
			do   func(w *twin, c *client) api.Errno
		}{
			"add":               {1, func(w *twin, c *client) api.Errno { return c.texts(command("SET k 2"), command("SET z 1")) }},
			"add in EXEC":       {1, func(w *twin, c *client) api.Errno { c.says("MULTI", "SET z 1"); return c.texts(command("EXEC")) }},
			"sync":              {3, func(w *twin, c *client) api.Errno { _, e := w.sync(); return e }},
			"rewrite":           {13, func(w *twin, c *client) api.Errno { _, e := w.rewrite(true); return e }},
			"rewrite by itself": {15, func(w *twin, c *client) api.Errno { return c.texts(command("SET z 1"), command("SET y 1")) }},
		} {
			for n := range x.acts {
				bounds := wide()
				if name == "rewrite by itself" {
					bounds = small(3)
				}
				w := booted(t, ideal, bounds)
				c := w.call(0).says("SET k 1")
				w.synced(c)
				c.says("SET l 1", "GET k")
				if name == "rewrite by itself" {
					w.synced(c)
				}
				ran := len(w.s.Ran())
				w.fuse(n)
				w.tells(fmt.Sprint(name, ", act ", n), x.do(w, c), api.EDOWN)
				// A command whose record found no power was done ahead of that.
				ran += map[string]int{"add": 1, "add in EXEC": 1, "rewrite by itself": max(n-12, 0)}[name]
				if got := len(w.s.Ran()); got != ran {
					t.Errorf("%s, act %d: ran %v", name, n, w.s.Ran())
				}
				w.isDown(name)
				w.crash(1, 2, 3)
				w.tells("boot", w.boot(), api.OK)
				if l := w.s.State(); len(l) == 0 || l[0].Val.Text != "1" {
					t.Errorf("%s, act %d: %v", name, n, l)
				}
			}
		}
	})
}

// P25.3: a log that has no room on its disk.
func TestDownOfFull(t *testing.T) {
	w := booted(t, true, wide())
	c := w.call(0)
	mset := "MSET"
	for i := range 19 {
		mset += fmt.Sprintf(" k%02d %s", i, strings.Repeat("x", 512))
	}
	for range 104 {
		c.says(mset)
	}
	w.tells("one more", c.texts(command(mset)), api.EFULL)
	if n := len(w.s.Ran()); n != 105 {
		t.Errorf("%d", n)
	}
	w.isDown("full")
}

// P25.3: a cell that tells ESPENT ends the vault, but the server is up till the vault tells another error.
func TestSpentCell(t *testing.T) {
	cells := wide()
	cells.Pin = 1
	for _, name := range []string{"sync", "rewrite", "take"} {
		w := newApart(t, true, small(1), cells)
		w.tells("boot", w.boot(), api.OK)
		c := w.call(0).says("SET k 1")
		var e, then api.Errno
		switch name {
		case "sync":
			_, e = w.sync()
			w.tells("sync", e, api.ESPENT)
			if !w.s.Up() {
				t.Error("it is down")
			}
			_, then = w.sync()
		case "rewrite":
			_, e = w.rewrite(false)
			w.tells("rewrite", e, api.ESPENT)
			if !w.s.Up() {
				t.Error("it is down")
			}
			c.says("GET k")
			then = c.texts(command("INCR k"))
		case "take":
			then = c.texts(command("INCR k"))
		}
		w.tells(name+", and behind it", then, api.ESTATE)
		w.isDown(name)
	}
	// Its power goes of its own.
	w := newApart(t, true, wide(), wide())
	w.tells("boot", w.boot(), api.OK)
	c := w.call(0).says("SET k 1")
	w.each(func(x world) { x.q.Fuse(0) })
	outs, e := w.sync()
	if e != api.EDOWN || len(outs) != 0 {
		t.Errorf("%d, %v", e, outs)
	}
	w.isDown("the cell is down")
	w.tells("boot", w.boot(), api.OK)
	w.has("what was in the log", "k")
	_ = c
}

// P25.3: bounds below 0 count as 0, above 2^40 as that.
func TestBounds(t *testing.T) {
	low := api.Bounds{Nonce: 100, Seq: math.MinInt, Pin: 100, Gen: 100, Life: 100, Epoch: -1, Conn: 100}
	w := booted(t, true, low)
	w.call(0)
	w.brings("a frame", 0, []byte{4}, api.ESPENT)
	high := api.Bounds{Nonce: math.MaxInt, Seq: math.MaxInt, Pin: math.MaxInt, Gen: math.MaxInt, Life: math.MaxInt, Epoch: math.MaxInt, Conn: math.MaxInt}
	w = booted(t, true, high)
	c := w.call(0)
	w.synced(c.says("SET k 1"))
	c.heard("+OK|")
	_, e := w.rewrite(true)
	w.tells("rewrite", e, api.OK)
}
