package serve_test

import (
	"fmt"
	"testing"

	"intaglio/api"
	"intaglio/serve"
)

// told is a server's work up to where its power goes: what its client was told, and how many groups lasted by then.
type told struct {
	*twin
	c    *client
	last int
	acts int // at which act the power goes
}

// says lets the client say something; false: the server is down.
func (x *told) says(commands ...string) bool {
	x.Helper()
	for _, c := range commands {
		e := x.c.texts(command(c))
		if e == api.EDOWN {
			return false
		}
		x.tells(c, e, api.OK)
	}
	return true
}

// lets asks what was sent; false: the server is down, and nothing was.
func (x *told) lets(outs []serve.Out, e api.Errno) bool {
	x.Helper()
	if e == api.EDOWN {
		if len(outs) != 0 {
			x.Fatalf("frames beside an error: %v", outs)
		}
		return false
	}
	x.tells("sync or rewrite", e, api.OK)
	x.last = len(x.s.Ran())
	x.c.opens(outs)
	return true
}

// works does all; false: the power went.
func (x *told) works() bool {
	x.Helper()
	return x.says("SET a 1", "MULTI", "SET b 1", "INCR a", "EXEC", "GET a") && x.lets(x.sync()) &&
		x.says("RPUSH l 1 2", "SET c 1 PX 3") && x.lets(x.rewrite(true)) &&
		x.says("INCR a", "DEL b", "GET b", "LPOP l", "INCR a") && x.lets(x.sync()) && x.lets(x.sync()) &&
		x.says("SET d 1", "SET e 1", "SET f 1", "SET g 1", "SET h 1") && x.lets(x.rewrite(false))
}

// replies is all that the client is told, if the power stays.
func (x *told) replies() string {
	return "+OK\r\n+OK\r\n+QUEUED\r\n+QUEUED\r\n*2\r\n+OK\r\n:2\r\n$1\r\n2\r\n" + ":2\r\n+OK\r\n" + ":3\r\n:1\r\n$-1\r\n$1\r\n1\r\n:4\r\n" + "+OK\r\n+OK\r\n+OK\r\n+OK\r\n+OK\r\n"
}

// state is what stands by the keys that are there.
func (x *told) state() string {
	out := ""
	for _, e := range x.s.State() {
		out += fmt.Sprint(e.Key, "=", e.Val.Text, e.Val.List, " ")
	}
	return out
}

// states is what is there behind so many groups.
func states() []string {
	return []string{
		"", "a=1[] ", "a=2[] b=1[] ", "a=2[] b=1[] l=[1 2] ", "a=2[] b=1[] c=1[] l=[1 2] ", "a=3[] b=1[] c=1[] l=[1 2] ", "a=3[] c=1[] l=[1 2] ", "a=3[] c=1[] l=[2] ", "a=4[] c=1[] l=[2] ",
		"a=4[] c=1[] d=1[] l=[2] ", "a=4[] c=1[] d=1[] e=1[] l=[2] ", "a=4[] c=1[] d=1[] e=1[] f=1[] l=[2] ", "a=4[] c=1[] d=1[] e=1[] f=1[] g=1[] l=[2] ", "a=4[] c=1[] d=1[] e=1[] f=1[] g=1[] h=1[] l=[2] ",
	}
}

// P25.5, P25.6, P3, P4: the power goes at each act, and any of what is not kept is lost: what the client was told is there, and nobody is told that somebody tampered.
func TestEachAct(t *testing.T) {
	both(t, func(t *testing.T, ideal bool) {
		for _, bounds := range []api.Bounds{wide(), small(4)} {
			for n := 0; ; n++ {
				if n > 200 {
					t.Fatal("the power never stays")
				}
				whole := false
				for cut := range 3 {
					x := &told{twin: booted(t, ideal, bounds), acts: n}
					x.c = x.call(0)
					x.fuse(n)
					whole = x.works()
					if all := x.replies(); len(x.c.opened) > len(all) || string(x.c.opened) != all[:len(x.c.opened)] || whole != (len(x.c.opened) == len(all)) {
						t.Fatalf("act %d: opened %q", n, x.c.opened)
					}
					if whole {
						break
					}
					if cut == 0 && n%9 == 0 {
						x.isDown("no power")
					}
					ran := len(x.s.Ran())
					x.crash(cut*37, cut*61, cut*113, cut*11)
					x.tells("boot", x.boot(), api.OK)
					found := -1
					for k, s := range states() {
						if s == x.state() {
							found = k
						}
					}
					if found < x.last || found > ran {
						t.Fatalf("act %d, cut %d: found %q, which is %d, of %d, of which %d last", n, cut, x.state(), found, ran, x.last)
					}
				}
				if whole {
					if n < 40 {
						t.Errorf("only %d acts", n)
					}
					break
				}
			}
		}
	})
}

// P25.5: a reply that changes nothing waits for what was done ahead of it by others.
func TestReadsWait(t *testing.T) {
	both(t, func(t *testing.T, ideal bool) {
		w := booted(t, ideal, wide())
		a, b := w.call(0), w.call(1)
		w.synced(a, b)
		a.says("SET k 1")
		b.says("GET k")
		w.fuse(1)
		outs, e := w.sync()
		if e != api.EDOWN || len(outs) != 0 {
			t.Fatalf("%d, %v", e, outs)
		}
		w.isDown("no power")
		w.crash()
		w.tells("boot", w.boot(), api.OK)
		w.has("boot", []string{}...)
	})
}
