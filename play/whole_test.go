package play_test

import (
	"slices"
	"testing"

	"intaglio/api"
)

// names is the names of all files.
func (w *twin) names() []string {
	var l []string
	for _, f := range w.w.Files() {
		l = append(l, f.Name)
	}
	return l
}

// P26.1, P26.2: the chapter's example, and the first one of the whole.
func TestExample(t *testing.T) {
	both(t, func(t *testing.T, ideal bool) {
		w := newTwin(t, wide(), api.MaxMemory, ideal)
		w.does(api.OK, boot(), dial(0), bring(0), bring(1), bring(0), say(0, "SET k 1", "GET k"), bring(0))
		if w.w.Waiting(1) != 0 {
			t.Error("a reply is under way ahead of Sync")
		}
		w.does(api.OK, sync(), bring(1))
		w.got(0, "+OK|$1|1|")
	})
}

// DOC's examples 2 and 3, P6: what was synced is there behind a crash; what was not is not, and nobody was told.
func TestExamplesCrash(t *testing.T) {
	both(t, func(t *testing.T, ideal bool) {
		w := booted(t, wide(), ideal)
		w.calls(4)
		w.says(4, "SET k 1")
		w.synced(4)
		w.got(4, "+OK|")
		w.says(4, "SET k 2")
		w.does(api.OK, crash(), boot())
		w.holds("k=1")
		w.got(4, "")
	})
}

// DOC's examples 4 and 5: files of before, and a log that is cut by a byte.
func TestExamplesTampered(t *testing.T) {
	both(t, func(t *testing.T, ideal bool) {
		w := booted(t, wide(), ideal)
		w.calls(1)
		w.says(1, "SET k 1")
		w.synced(1)
		w.does(api.OK, keep())
		w.says(1, "SET k 2")
		w.synced(1)
		w.does(api.OK, crash(), keep(), api.Step{Kind: api.SPut})
		w.does(api.ETAMPER, boot())
		w.does(api.OK, api.Step{Kind: api.SPut, N: 1})
		log := w.w.Files()[1]
		w.does(api.OK, api.Step{Kind: api.SEdit, M: 1, Text: log.Data[:len(log.Data)-1]})
		w.does(api.ETAMPER, boot())
		w.does(api.OK, api.Step{Kind: api.SPut, N: 1}, boot())
		w.holds("k=2")
	})
}

// DOC's examples 6 and 7: a frame, and a hello, that are brought twice.
func TestExamplesTwice(t *testing.T) {
	both(t, func(t *testing.T, ideal bool) {
		w := booted(t, wide(), ideal)
		w.calls(1)
		w.says(1, "INCR k")
		w.does(api.EAUTH, again(2, 2, 2))
		w.does(api.ENONE, again(2, 2, 2))
		w.does(api.OK, sync())
		if w.w.Waiting(3) != 0 {
			t.Error("a connection that is gone was told something")
		}
		w.holds("k=1")
		w.does(api.OK, dial(2), bring(4), again(4, 0, 4))
		if w.w.Waiting(5) != 2 {
			t.Fatalf("%d answers are under way", w.w.Waiting(5))
		}
		w.does(api.OK, lose(5), bring(5), bring(4))
		if c := w.call(2); !c.Done || c.Keys != keysOf(1, 2, 1) {
			t.Errorf("%v", c)
		}
		w.says(2, "GET k")
		w.synced(2)
		w.got(2, "$1|1|")
		// The first answer was taken, but the connection is the second one's.
		w.does(api.OK, dial(3), bring(6), again(6, 0, 6), bring(7))
		w.does(api.EAUTH, bring(6))
		if l := w.w.Talks(); len(l) != 2 || l[1].Keys != keysOf(1, 2, 1) || string(l[1].Told) != "$1\r\n1\r\n" {
			t.Errorf("%v", l)
		}
	})
}

// DOC's examples 8 to 10: EXEC, a rewrite that turns, and a pin that is spent.
func TestExamplesWhole(t *testing.T) {
	both(t, func(t *testing.T, ideal bool) {
		w := booted(t, wide(), ideal)
		w.calls(0)
		w.says(0, "MULTI", "INCR k", "INCR k", "EXEC")
		w.synced(0)
		w.got(0, "+OK|+QUEUED|+QUEUED|*2|:1|:2|")
		w.does(api.OK, rewrite(1))
		if n := w.names(); !slices.Equal(n, []string{"head", "log.1.2", "snap.1.2"}) || w.w.Files()[0].Data[7] != 1 {
			t.Errorf("%q, %x", n, w.w.Files()[0].Data)
		}
		bounds := wide()
		bounds.Pin = 1
		w = booted(t, bounds, ideal)
		w.calls(0)
		w.does(api.OK, sync())
		w.says(0, "SET k 1")
		w.does(api.ESPENT, sync(), rewrite(0), sync())
		if !w.w.Up() || w.w.Waiting(1) != 0 || len(w.call(0).Got) != 0 {
			t.Errorf("up %v, %d wait", w.w.Up(), w.w.Waiting(1))
		}
	})
}

// P8: behind a rewrite that turns, files of before are told to be tampered with.
func TestTurned(t *testing.T) {
	both(t, func(t *testing.T, ideal bool) {
		for _, n := range []int{0, 1} {
			w := booted(t, wide(), ideal)
			w.calls(0)
			w.says(0, "SET k 1")
			w.synced(0)
			w.does(api.OK, keep(), rewrite(n), keep(), crash(), api.Step{Kind: api.SPut})
			w.does(api.ETAMPER, boot())
			w.does(api.OK, api.Step{Kind: api.SPut, N: 1}, boot())
			w.holds("k=1")
			if epoch := int(w.w.Files()[0].Data[7]); epoch != n {
				t.Errorf("epoch %d, want %d", epoch, n)
			}
		}
	})
}

// P26.2, rule 6: a world that New did not make.
func TestNotMade(t *testing.T) {
	for name, w := range notMade() {
		for kind := -1; kind <= 17; kind++ {
			if e := w.Step(api.Step{Kind: kind}); e != api.ENIL {
				t.Errorf("%s, kind %d: %d", name, kind, e)
			}
		}
		if e := w.Step(api.Step{Kind: api.SDial, Who: 9}); e != api.ENIL {
			t.Errorf("%s: %d", name, e)
		}
		if w.Up() || w.Now() != 0 || w.Life() != 0 || w.Pin() != (api.Pin{}) || w.Sealed() != 0 || w.Repeats() != 0 {
			t.Errorf("%s: %v, %d, %d, %v, %d, %d", name, w.Up(), w.Now(), w.Life(), w.Pin(), w.Sealed(), w.Repeats())
		}
		if len(w.State())+len(w.Ran())+len(w.Talks())+len(w.Calls())+len(w.Files()) != 0 {
			t.Errorf("%s: something is there", name)
		}
		for way := -1; way <= 12; way++ {
			if w.Waiting(way) != 0 {
				t.Errorf("%s: way %d: %d", name, way, w.Waiting(way))
			}
		}
	}
}

// P26.1: a world in which nothing was done.
func TestNew(t *testing.T) {
	both(t, func(t *testing.T, ideal bool) {
		for _, bounds := range []api.Bounds{{}, wide(), {Nonce: -1, Seq: -1, Pin: -1, Gen: -1, Life: -1, Epoch: -1, Conn: -1}} {
			w := newTwin(t, bounds, 0, ideal)
			w.same("new")
			g := w.w
			if g.Up() || g.Now() != 0 || g.Life() != 0 || g.Pin() != (api.Pin{}) || g.Sealed() != 0 || g.Repeats() != 0 {
				t.Errorf("%v, %d, %d, %v, %d, %d", g.Up(), g.Now(), g.Life(), g.Pin(), g.Sealed(), g.Repeats())
			}
			if len(g.State())+len(g.Ran())+len(g.Talks())+len(g.Calls())+len(g.Files()) != 0 {
				t.Error("something is there")
			}
		}
	})
}
