package play_test

import (
	"math"
	"testing"

	"intaglio/api"
)

// P26.1: ways that are none, and ways on which nothing is.
func TestWays(t *testing.T) {
	for _, up := range []bool{true, false} {
		w := newTwin(t, wide(), 1000, true)
		if up {
			w.does(api.OK, boot())
		}
		for _, way := range []int{-1, 12, 13, math.MinInt, math.MaxInt} {
			w.does(api.EARG, bring(way), again(way, 0, 0), forge(way, 1), forge(way), lose(way))
		}
		for way := range 12 {
			w.does(api.ENONE, bring(way), again(way, 0, 0), again(way, -1, 0), lose(way))
			want := api.ESTATE
			if up && way%2 == 0 {
				want = api.ENONE
			}
			w.does(want, forge(way, 4), forge(way))
		}
	}
}

// P26.1: a frame that comes is no more under way, whatever is told of it; one that is picked stays.
func TestComes(t *testing.T) {
	w := booted(t, wide(), true)
	w.calls(0)
	w.does(api.OK, say(0, "INCR k"), say(0, "INCR k"), say(0, "INCR k"), lose(0))
	w.does(api.EAUTH, bring(0))
	w.does(api.ENONE, bring(0))
	if w.w.Waiting(0) != 0 {
		t.Errorf("%d frames wait", w.w.Waiting(0))
	}
	w.does(api.OK, say(0, "INCR k"), crash())
	w.does(api.ESTATE, again(0, 2, 0), again(0, 0, 0))
	if w.w.Waiting(0) != 1 {
		t.Errorf("%d frames wait", w.w.Waiting(0))
	}
	w.does(api.ESTATE, bring(0))
	if w.w.Waiting(0) != 0 {
		t.Errorf("%d frames wait", w.w.Waiting(0))
	}
}

// P26.1: a frame that is picked comes where M goes, turned.
func TestAgain(t *testing.T) {
	both(t, func(t *testing.T, ideal bool) {
		w := booted(t, wide(), ideal)
		w.does(api.OK, dial(0))
		// The error of the pick comes first.
		w.does(api.ENONE, again(0, 1, 12), again(2, 0, -1))
		w.does(api.EARG, again(0, 0, 12), again(0, 0, -1))
		// A hello on other ways begins connections there.
		w.does(api.OK, again(0, 0, 2), again(0, 0, 10))
		for way := range 12 {
			want := 0
			if way == 0 || way == 3 || way == 11 {
				want = 1
			}
			if w.w.Waiting(way) != want {
				t.Errorf("%d wait on the way %d", w.w.Waiting(way), way)
			}
		}
		// To a client it is no answer, but an answer on another way is one.
		w.does(api.ESTATE, again(0, 0, 5))
		w.does(api.OK, again(3, 0, 1))
		if c := w.call(0); !c.Done || c.Keys != keysOf(1, 0, 0) {
			t.Errorf("%v", c)
		}
		// The finish belongs to the connection of the way 2.
		w.does(api.OK, lose(0), again(0, 1, 2), say(0, "PING"), lose(0), again(0, 2, 2), sync())
		w.does(api.ESTATE, bring(3), bring(3))
		w.does(api.OK, again(3, 1, 1))
		w.got(0, "+PONG|")
		// Turned by 0, a frame is as it was.
		w.does(api.OK, say(0, "ECHO a"), lose(0))
		x := again(0, 3, 2)
		x.At = 999
		w.does(api.OK, x)
		// The first byte is turned to that of a hello, and is the one at the place 0, of so many.
		w.does(api.OK, say(0, "ECHO b"))
		x = again(0, 4, 2)
		x.At, x.By = 0, 5
		w.does(api.EFORM, x)
		hello := again(0, 0, 2)
		hello.At, hello.By, hello.N = -7, 255, 9
		w.does(api.OK, hello)
	})
}

// P26.1: the draw is N, also of a frame that is picked; the random bytes too.
func TestAgainDraw(t *testing.T) {
	both(t, func(t *testing.T, ideal bool) {
		for n, member := range map[int]string{0: "a", 1: "b", 2: "c", 5: "c", -1: "a", -2: "c"} {
			w := booted(t, wide(), ideal)
			w.calls(3)
			w.says(3, "SADD s a b c")
			w.does(api.OK, say(3, "SPOP s"), lose(6))
			x := again(6, 3, 6)
			x.N = n
			w.does(api.OK, x)
			w.synced(3)
			w.got(3, ":3|$1|"+member+"|")
			if r := w.w.Ran(); len(r) != 2 || r[1].Draw != n {
				t.Errorf("%v, want the draw %d", r, n)
			}
		}
	})
}

// P26.1: answers are sent on the way behind, also when the hello came from nobody.
func TestForge(t *testing.T) {
	both(t, func(t *testing.T, ideal bool) {
		w := booted(t, wide(), ideal)
		hello := append([]byte{1}, make([]byte, 24)...)
		for way := 0; way < 12; way += 2 {
			w.does(api.OK, forge(way, hello...))
			if w.w.Waiting(way+1) != 1 || w.w.Waiting(way) != 0 {
				t.Errorf("%d and %d wait on the ways %d and %d", w.w.Waiting(way), w.w.Waiting(way+1), way, way+1)
			}
		}
		w.does(api.EFORM, forge(0, 1), forge(0, hello[:24]...), forge(0, 3))
		w.does(api.ENONE, forge(0, 3), forge(0))
		// A frame that is forged was never sent.
		w.does(api.ENONE, again(0, 0, 0))
		if len(w.w.Talks())+len(w.w.Calls()) != 0 {
			t.Error("a hello of nobody is a call")
		}
	})
}

// P26.1: what is lost is not under way; it was sent all the same.
func TestLose(t *testing.T) {
	w := booted(t, wide(), true)
	w.does(api.OK, dial(3), dial(3), lose(6), bring(6))
	w.does(api.ENONE, lose(6), bring(6))
	w.does(api.OK, again(6, 0, 6))
	if w.w.Waiting(7) != 2 {
		t.Errorf("%d answers wait", w.w.Waiting(7))
	}
}

// P26.1: a way takes so many frames; nobody is told of those that it does not take.
func TestFullWay(t *testing.T) {
	both(t, func(t *testing.T, ideal bool) {
		w := booted(t, wide(), ideal)
		for range 198 {
			w.does(api.OK, dial(0), lose(0))
		}
		w.does(api.OK, dial(0), bring(0), bring(1), bring(0))
		w.does(api.OK, say(0, "PING"), hang(0), dial(0))
		if w.w.Waiting(0) != 0 || len(w.w.Calls()) != 200 {
			t.Errorf("%d frames wait, %d calls", w.w.Waiting(0), len(w.w.Calls()))
		}
		if c := w.w.Calls()[198]; len(c.Said) == 0 || !c.Done {
			t.Errorf("%v", c)
		}
		// Likewise what the server sends.
		for range 198 {
			w.does(api.OK, again(0, 0, 0))
		}
		if w.w.Waiting(1) != 198 {
			t.Errorf("%d frames wait", w.w.Waiting(1))
		}
		w.does(api.OK, again(0, 0, 0), again(0, 0, 0), again(0, 0, 0))
		if w.w.Waiting(1) != 199 {
			t.Errorf("%d frames wait", w.w.Waiting(1))
		}
	})
}

// P26.1: replies that a way does not take are told in the talk.
func TestFullWayBack(t *testing.T) {
	w := booted(t, wide(), true)
	w.calls(1)
	for range 150 {
		w.does(api.OK, again(2, 0, 4))
	}
	for range 205 {
		w.does(api.OK, say(1, "PING"), bring(2), sync())
		if w.w.Waiting(2) == 0 && len(w.call(1).Said) == 198*14 {
			break
		}
	}
	if w.w.Waiting(3) != 198 {
		t.Errorf("%d frames wait", w.w.Waiting(3))
	}
	w.does(api.OK, say(1, "PING"))
	w.does(api.ENONE, bring(2))
}
