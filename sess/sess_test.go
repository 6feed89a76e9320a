package sess_test

import (
	"fmt"
	"math"
	"strings"
	"testing"

	"intaglio/api"
	"intaglio/sess"
	"intaglio/store"
)

// P24.1, and the chapter's example.
func TestExample(t *testing.T) {
	d := newDesk(t, 1, plenty)
	d.tells(0, "MULTI", ok())
	d.tells(0, "INCR k", queued())
	d.tells(0, "EXEC", list(num(1)))
	d.told(10, 3, "INCR k")
}

// P24.1: without a queue each command is done; the group is what Writes and was told no error, as it was sent.
func TestOthers(t *testing.T) {
	d := newDesk(t, 1, 100)
	d.tells(0, "set k 1", ok())
	d.told(10, 3, "set k 1")
	d.tells(0, "GET k", bulk("1"))
	d.tells(0, "SADD k 1", bad("WRONGTYPE the key holds another kind of value"))
	d.tells(0, "SET b "+long(100), bad("OOM no memory left"))
	d.tells(0, "INCRBY k x", bad(eInt))
	d.tells(0, "SET k", bad(eCount))
	d.tells(0, "PING", word("PONG"))
	d.count(1)
	d.now, d.draw = 11, -7
	d.tells(0, "DEL b", num(0))
	d.told(11, -7, "DEL b")
	d.tells(0, "DEL k", num(1))
	d.count(3)
}

// P24.1: the time is that of the group, within its bounds; Sweep is by it.
func TestTimes(t *testing.T) {
	for _, x := range []struct{ now, want int }{{-1, 0}, {math.MinInt, 0}, {0, 0}, {1, 1}, {1<<40 - 1, 1<<40 - 1}, {1 << 40, 1 << 40}, {1<<40 + 1, 1 << 40}, {math.MaxInt, 1 << 40}} {
		for _, draw := range []int{0, 1, -1, math.MinInt, math.MaxInt} {
			d := newDesk(t, 1, plenty)
			d.now = 0
			d.do(0, "PEXPIREAT", "a", "5")
			for _, key := range []string{"a", "b", "c"} {
				d.do(0, "SADD", key, "1", "2", "3", "4", "5")
			}
			d.do(0, "PEXPIREAT", "a", "1")
			d.do(0, "PEXPIREAT", "b", fmt.Sprint(1<<40))
			d.now, d.draw = x.now, draw
			d.do(0, "SPOP", "c")
			d.told(x.want, draw, "SPOP c")
			d.tells(0, "EXISTS a b", num(map[bool]int{true: 1}[x.want < 1]+map[bool]int{true: 1}[x.want < 1<<40]))
			d.do(0, "MULTI")
			d.do(0, "SPOP", "c")
			d.do(0, "SRANDMEMBER", "c")
			d.do(0, "EXEC")
			d.told(x.want, draw, "SPOP c")
		}
	}
}

// P24.1: Sweep comes first, whatever is told behind it.
func TestSweepFirst(t *testing.T) {
	for _, command := range []string{"MULTI", "EXEC", "DISCARD", "UNWATCH", "WATCH a", "NOPE", "SET", "", "GET b", "SET b 1", "SET " + long(65) + " 1"} {
		d := newDesk(t, 1, plenty)
		d.do(0, "SET", "k", "1", "PX", "5")
		d.now = 15
		d.do(0, strings.Fields(command)...)
		for _, e := range d.got.Dump() {
			if e.Key == "k" {
				t.Errorf("%.50q: k is there", command)
			}
		}
	}
}

// P24.1: each of a session's commands, with and without an open queue.
func TestQueueOpen(t *testing.T) {
	d := newDesk(t, 1, plenty)
	d.tells(0, "EXEC", bad(eExec))
	d.tells(0, "DISCARD", bad(eDiscard))
	d.tells(0, "UNWATCH", ok())
	d.tells(0, "WATCH a b", ok())
	d.tells(0, "multi", ok())
	d.tells(0, "Multi", bad(eInside))
	d.tells(0, "watch a", bad(eWatch))
	d.tells(0, "unwatch", queued())
	d.tells(0, "GET a", queued())
	d.tells(0, "PING", queued())
	d.tells(0, "exec", list(ok(), null(), word("PONG")))
	d.tells(0, "EXEC", bad(eExec))
	d.tells(0, "MULTI", ok())
	d.tells(0, "EXEC", list())
	d.tells(0, "MULTI", ok())
	d.tells(0, "SET a 1", queued())
	d.tells(0, "Discard", ok())
	d.tells(0, "DISCARD", bad(eDiscard))
	d.tells(0, "EXEC", bad(eExec))
	d.tells(0, "GET a", null())
	d.count(0)
}

// P24.1: which errors count for EXEC, and which do not.
func TestWhatCounts(t *testing.T) {
	for _, x := range []struct {
		command, told string
		counts        bool
	}{
		{"NOPE", eName, true}, {"", eName, true}, {"SET k", eCount, true}, {"GET " + long(65), eKey, true}, {"GET " + long(513), eLong, true},
		{"MULTI x", eCount, true}, {"EXEC x", eCount, true}, {"DISCARD x", eCount, true}, {"WATCH", eCount, true}, {"UNWATCH x", eCount, true}, {"WATCH " + long(65), eKey, true},
		{"ECHO " + long(513), eLong, true}, {"MULTI", eInside, false}, {"WATCH k", eWatch, false},
	} {
		for _, ahead := range []bool{false, true} {
			d := newDesk(t, 1, plenty)
			d.tells(0, "MULTI", ok())
			if ahead {
				d.tells(0, "SET k 1", queued())
			}
			d.tells(0, x.command, bad(x.told))
			d.tells(0, "SET b 1", queued())
			want := list(ok())
			if ahead {
				want = list(ok(), ok())
			}
			if x.counts {
				want = bad(eAbort)
			}
			d.tells(0, "EXEC", want)
			// All is forgotten behind it, also what was wrong.
			d.tells(0, "MULTI", ok())
			d.tells(0, "GET k", queued())
			if r := d.do(0, "EXEC"); r.Kind != api.RArray {
				t.Errorf("%.20q: %v", x.command, r)
			}
		}
	}
}

// P24.1: errors without an open queue do not count for the next one; DISCARD forgets those in it.
func TestWhatDoesNotCount(t *testing.T) {
	d := newDesk(t, 1, plenty)
	d.tells(0, "NOPE", bad(eName))
	d.tells(0, "EXEC", bad(eExec))
	d.tells(0, "MULTI", ok())
	d.tells(0, "EXEC", list())
	d.tells(0, "MULTI", ok())
	d.tells(0, "NOPE", bad(eName))
	d.tells(0, "DISCARD", ok())
	d.tells(0, "MULTI", ok())
	d.tells(0, "EXEC", list())
}

// P24.1: at most 20 commands are queued; one more counts for EXEC.
func TestMostCommands(t *testing.T) {
	for _, n := range []int{0, 1, 19, 20, 21, 25} {
		d := newDesk(t, 1, plenty)
		d.tells(0, "MULTI", ok())
		want := list()
		for i := range n {
			r := queued()
			if i >= 20 {
				r, want = bad(eMuch), bad(eAbort)
			}
			d.tells(0, []string{"INCR k", "PING", "UNWATCH"}[i%3], r)
			if want.Kind == api.RArray {
				want.List = append(want.List, []api.Reply{num(i/3 + 1), word("PONG"), ok()}[i%3])
			}
			if q := d.sessions[0].Queue(); q != min(i+1, 20) {
				t.Fatalf("%d are queued", q)
			}
		}
		d.tells(0, "EXEC", want)
		if q := d.sessions[0].Queue(); q != 0 {
			t.Errorf("%d are queued behind EXEC", q)
		}
	}
}

// texts are a command of so many bytes, its name among them: elements of a list, and its key.
func texts(n int) []string {
	args := []string{"RPUSH", "l"}
	for n -= 6; n > 512; n -= 512 {
		args = append(args, long(512))
	}
	return append(args, long(n))
}

// P24.1: the words of what is queued have at most 20000 bytes together; one more is too much, a shorter one behind it is not.
func TestMostBytes(t *testing.T) {
	for _, split := range []int{1000, 10000, 15000, 19000} {
		for _, beyond := range []int{-1, 0, 1, 300} {
			d := newDesk(t, 1, plenty)
			queue := func(n int, want api.Reply) {
				t.Helper()
				if r := d.do(0, texts(n)...); show(r) != show(want) {
					t.Fatalf("%d and %d bytes: %d: %v", split, 20000-split+beyond, n, r)
				}
			}
			d.tells(0, "MULTI", ok())
			queue(split, queued())
			if beyond > 0 {
				queue(20000-split+beyond, bad(eMuch))
				d.tells(0, "PING", queued())
				d.tells(0, "EXEC", bad(eAbort))
			} else {
				queue(20000-split+beyond, queued())
				if r := d.do(0, "EXEC"); r.Kind != api.RArray || len(r.List) != 2 {
					t.Fatalf("%d and %d bytes: %v", split, 20000-split+beyond, r)
				}
			}
			// The bytes are counted anew.
			d.tells(0, "MULTI", ok())
			queue(10000, queued())
			queue(10000, queued())
			d.tells(0, "GET x", bad(eMuch))
			d.tells(0, "DISCARD", ok())
		}
	}
}

// P24.1: without a queue no command is too much.
func TestNoQueueNoLimit(t *testing.T) {
	d := newDesk(t, 1, plenty)
	for range 3 {
		d.do(0, texts(19000)...)
	}
	for range 30 {
		d.do(0, "INCR", "k")
	}
	d.count(33)
}

// P24.1: a command's name is told by any letters, and its errors in EXEC stand in the list; the group has the others.
func TestErrorsInside(t *testing.T) {
	d := newDesk(t, 1, 200)
	d.tells(0, "SADD s 1", num(1))
	d.do(0, "MULTI")
	for _, c := range []string{"incr s", "INCR k", "GET s", "SET b " + long(300), "INCRBY k x", "incrby k 5", "GET k", "SADD s 1", "LPOP l", "UNWATCH"} {
		d.tells(0, c, queued())
	}
	wrong := bad("WRONGTYPE the key holds another kind of value")
	d.tells(0, "EXEC", list(wrong, num(1), wrong, bad("OOM no memory left"), bad(eInt), num(6), bulk("6"), num(0), null(), ok()))
	d.told(10, 3, "INCR k", "incrby k 5", "SADD s 1", "LPOP l")
	d.count(2)
	d.do(0, "MULTI")
	d.do(0, "GET", "k")
	d.do(0, "INCR", "s")
	d.tells(0, "EXEC", list(bulk("6"), wrong))
	d.count(2)
}

// P24.1: a key that was watched must have the Version that it had.
func TestWatch(t *testing.T) {
	touches := []string{"SET k 2", "DEL k", "APPEND k 1", "INCR k", "PEXPIRE k 100", "RENAME k b", "FLUSHALL", "SET k 1 PX 1000"}
	leaves := []string{"GET k", "SET k 1", "SET b 1", "INCR b", "SETRANGE k 0 1", "DEL b", "APPEND b 1", "PERSIST k", "INCRBY k x", "SADD k 1"}
	for i, c := range append(touches, leaves...) {
		for _, who := range []int{0, 1} {
			for _, inside := range []bool{false, true} {
				d := newDesk(t, 2, plenty)
				d.do(0, "SET", "k", "1")
				d.tells(0, "WATCH a k", ok())
				if inside && who == 1 {
					d.do(0, "MULTI")
					d.do(0, "PING")
				}
				d.do(who, strings.Split(c, " ")...)
				if !inside || who == 0 {
					d.do(0, "MULTI")
					d.do(0, "PING")
				}
				want := list(word("PONG"))
				if i < len(touches) {
					want = noList()
				}
				d.tells(0, "EXEC", want)
				// Nothing is watched any more.
				d.do(1, "SET", "k", "9")
				d.do(0, "MULTI")
				d.tells(0, "EXEC", list())
			}
		}
	}
}

// P24.1: a key that is watched twice stays as it was watched first.
func TestWatchTwice(t *testing.T) {
	for _, again := range []string{"WATCH k", "WATCH b k", "WATCH b k k"} {
		d := newDesk(t, 2, plenty)
		d.tells(0, "WATCH k", ok())
		d.do(1, "SET", "k", "1")
		d.tells(0, again, ok())
		d.do(0, "MULTI")
		d.tells(0, "EXEC", noList())
	}
	d := newDesk(t, 2, plenty)
	d.do(1, "SET", "k", "1")
	d.tells(0, "WATCH k k", ok())
	d.tells(0, "WATCH b", ok())
	d.do(0, "MULTI")
	d.tells(0, "EXEC", list())
	d.do(0, "WATCH", "k")
	d.do(0, "WATCH", "b")
	d.do(1, "SET", "b", "2")
	d.do(0, "MULTI")
	d.do(0, "SET", "c", "1")
	d.tells(0, "EXEC", noList())
	d.tells(0, "GET c", null())
}

// P24.1: what is watched is the keys, not the name of the command.
func TestWatchName(t *testing.T) {
	for _, name := range []string{"WATCH", "watch"} {
		d := newDesk(t, 2, plenty)
		d.tells(0, name+" k", ok())
		d.do(1, "SET", name, "1")
		d.do(0, "MULTI")
		d.tells(0, "EXEC", list())
	}
}

// P24.1: what leaves nothing watched, and what does not.
func TestWatchNoMore(t *testing.T) {
	for _, x := range []struct {
		commands string
		watched  bool
	}{
		{"UNWATCH", false}, {"unwatch", false}, {"MULTI,DISCARD", false}, {"MULTI,EXEC", false}, {"MULTI,NOPE,EXEC", false}, {"MULTI,NOPE,DISCARD", false}, {"EXEC", true}, {"DISCARD", true}, {"UNWATCH x", true}, {"MULTI,UNWATCH,DISCARD", false}, {"MULTI x", true}, {"NOPE", true},
	} {
		d := newDesk(t, 2, plenty)
		d.do(0, "WATCH", "k")
		for _, c := range strings.Split(x.commands, ",") {
			d.do(0, strings.Split(c, " ")...)
		}
		d.do(1, "INCR", "k")
		d.do(0, "MULTI")
		want := list()
		if x.watched {
			want = noList()
		}
		d.tells(0, "EXEC", want)
	}
	// UNWATCH that is queued does nothing: what was touched is told all the same.
	d := newDesk(t, 2, plenty)
	d.do(0, "WATCH", "k")
	d.do(0, "MULTI")
	d.tells(0, "UNWATCH", queued())
	d.do(1, "INCR", "k")
	d.tells(0, "EXEC", noList())
	// Errors come ahead of what was touched.
	d.do(0, "WATCH", "k")
	d.do(1, "INCR", "k")
	d.do(0, "MULTI")
	d.tells(0, "NOPE", bad(eName))
	d.tells(0, "EXEC", bad(eAbort))
}

// P24.1: a key that is watched, and goes by time, is touched; also one that goes at the time of EXEC, and one that comes again as it was.
func TestWatchSwept(t *testing.T) {
	for _, x := range []struct {
		at   int
		want api.Reply
	}{{14, list()}, {15, noList()}, {16, noList()}} {
		d := newDesk(t, 2, plenty)
		d.do(0, "SET", "k", "1", "PX", "5")
		d.tells(0, "WATCH k", ok())
		d.do(0, "MULTI")
		d.now = x.at
		d.tells(0, "EXEC", x.want)
	}
	d := newDesk(t, 2, plenty)
	d.do(0, "SET", "k", "1")
	d.do(0, "WATCH", "k")
	d.do(1, "DEL", "k")
	d.do(1, "SET", "k", "1")
	d.do(0, "MULTI")
	d.tells(0, "EXEC", noList())
	// One that is gone by the time of WATCH is watched as one that is not there.
	d.do(0, "SET", "k", "1", "PX", "5")
	d.now = 15
	d.do(0, "WATCH", "k")
	d.do(0, "MULTI")
	d.tells(0, "EXEC", list())
}

// P24.1: sessions go their own ways on one store.
func TestTwoSessions(t *testing.T) {
	d := newDesk(t, 2, plenty)
	d.tells(0, "MULTI", ok())
	d.tells(0, "INCR k", queued())
	d.tells(1, "EXEC", bad(eExec))
	d.tells(1, "INCR k", num(1))
	d.tells(1, "MULTI", ok())
	d.tells(1, "NOPE", bad(eName))
	d.tells(0, "EXEC", list(num(2)))
	d.tells(1, "EXEC", bad(eAbort))
}

// P24.1: of a session that New did not make, or a nil store, all is zero, and nothing is done.
func TestNoSession(t *testing.T) {
	for name, s := range map[string]*sess.Session{"nil": nil, "new": new(sess.Session), "zero": {}} {
		st := store.New(plenty)
		st.Do(1, 0, []string{"SET", "k", "1", "PX", "5"})
		for _, args := range [][]string{nil, {"MULTI"}, {"SET", "a", "1"}, {"EXEC"}, {"NOPE"}, {"WATCH", "k"}, {"UNWATCH"}, {"DISCARD"}} {
			if r, g := s.Do(st, 100, 0, args); show(r) != show(api.Reply{}) || show(g) != show(sess.Group{}) {
				t.Errorf("%s, %q: %v, %v", name, args, r, g)
			}
		}
		if s.Queue() != 0 || len(st.Dump()) != 1 || st.Version("k") != 1 {
			t.Errorf("%s: %d, %v", name, s.Queue(), st.Dump())
		}
	}
	s, st := sess.New(), store.New(plenty)
	for _, args := range [][]string{nil, {"MULTI"}, {"NOPE"}, {"SET", "a", "1"}, {"EXEC"}} {
		if r, g := s.Do(nil, 1, 0, args); show(r) != show(api.Reply{}) || show(g) != show(sess.Group{}) || s.Queue() != 0 {
			t.Errorf("no store, %q: %v, %v", args, r, g)
		}
	}
	if r, _ := s.Do(st, 1, 0, []string{"EXEC"}); show(r) != show(bad(eExec)) {
		t.Errorf("a queue was opened without a store: %v", r)
	}
	s.Do(st, 1, 0, []string{"MULTI"})
	s.Do(st, 1, 0, []string{"PING"})
	s.Do(nil, 1, 0, []string{"NOPE"})
	s.Do(nil, 1, 0, []string{"PING"})
	s.Do(nil, 1, 0, []string{"EXEC"})
	if r, _ := s.Do(st, 1, 0, []string{"EXEC"}); show(r) != show(list(word("PONG"))) {
		t.Errorf("the queue was changed without a store: %v", r)
	}
	// A store that no call made does nothing, and answers zero: there is no group.
	s = sess.New()
	for _, x := range []struct {
		args []string
		want api.Reply
	}{{[]string{"GET", "k"}, api.Reply{}}, {[]string{"SET", "k", "1"}, api.Reply{}}, {[]string{"MULTI"}, ok()}, {[]string{"SET", "k", "1"}, queued()}, {[]string{"EXEC"}, list(api.Reply{})}} {
		if r, g := s.Do(new(store.Store), 1, 0, x.args); show(r) != show(x.want) || show(g) != show(sess.Group{}) {
			t.Errorf("%q: %v, %v", x.args, r, g)
		}
	}
	sess.Replay(nil, sess.Group{Commands: [][]string{{"SET", "k", "1"}}})
	sess.Replay(new(store.Store), sess.Group{Commands: [][]string{{"SET", "k", "1"}, nil}})
}

// Rule 4: what is told is new memory; what is done with it changes nothing.
func TestOwnMemory(t *testing.T) {
	s, st := sess.New(), store.New(plenty)
	spoil := func(g sess.Group) {
		for _, args := range g.Commands {
			for i := range args {
				args[i] = "spoilt"
			}
			_ = append(args[:0:cap(args)], "spoilt")
		}
	}
	args := make([]string, 3, 9)
	copy(args, []string{"SET", "k", "1"})
	_, g := s.Do(st, 1, 0, args)
	args[0] = "x"
	if g.Commands[0][0] != "SET" {
		t.Error("the group has the words that were handed in")
	}
	spoil(g)
	if args[1] != "k" || args[:4][3] != "" {
		t.Error("what was handed in was changed")
	}
	s.Do(st, 1, 0, []string{"MULTI"})
	one := []string{"INCR", "k"}
	s.Do(st, 1, 0, one)
	one[1] = "b"
	s.Do(st, 1, 0, one)
	one[0] = "DEL"
	r, g := s.Do(st, 1, 0, []string{"EXEC"})
	if show(r) != show(list(num(2), num(1))) || show(g.Commands) != show([][]string{{"INCR", "k"}, {"INCR", "b"}}) {
		t.Errorf("%v, %v", r, g)
	}
	spoil(g)
	r.List[0] = bad("spoilt")
	s.Do(st, 1, 0, []string{"MULTI"})
	s.Do(st, 1, 0, []string{"GET", "k"})
	if r, _ := s.Do(st, 1, 0, []string{"EXEC"}); show(r) != show(list(bulk("2"))) {
		t.Errorf("%v", r)
	}
}
