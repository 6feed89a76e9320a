package play_test

import (
	"testing"

	"intaglio/api"
)

// spoil changes all that a world told.
func (w *twin) spoil() {
	for _, e := range w.w.State() {
		for i := range e.Val.List {
			e.Val.List[i] = "spoilt"
		}
	}
	for _, g := range w.w.Ran() {
		for _, args := range g.Commands {
			for i := range args {
				args[i] = "spoilt"
			}
			_ = append(args[:0:cap(args)], "spoilt")
		}
		clear(g.Commands)
	}
	for _, t := range w.w.Talks() {
		for _, b := range [][]byte{t.Heard, t.Told} {
			clear(b[:cap(b)])
		}
	}
	for _, c := range w.w.Calls() {
		for _, b := range [][]byte{c.Said, c.Got} {
			clear(b[:cap(b)])
		}
	}
	for _, f := range w.w.Files() {
		clear(f.Data[:cap(f.Data)])
	}
	clear(w.w.State())
	clear(w.w.Ran())
	clear(w.w.Talks())
	clear(w.w.Calls())
	clear(w.w.Files())
}

// Rule 4: what is told is new memory; what is done with it changes nothing.
func TestOwnMemory(t *testing.T) {
	both(t, func(t *testing.T, ideal bool) {
		w := booted(t, wide(), ideal)
		for range 3 {
			w.calls(0, 1)
			w.says(0, "RPUSH l a b c")
			w.says(0, "SET k 1")
			w.says(1, "GET k")
			w.synced(0, 1)
			w.says(0, "GET k")
			w.does(api.OK, keep())
			w.spoil()
			w.same("spoilt, up")
			w.does(api.OK, crash())
			w.spoil()
			w.same("spoilt, not up")
			w.does(api.OK, put(len(w.m.past)-1), boot())
			w.spoil()
			w.same("spoilt, up again")
		}
	})
}

// Rule 5: worlds that the same befell tell the same, and go their own ways.
func TestApart(t *testing.T) {
	both(t, func(t *testing.T, ideal bool) {
		a, b := booted(t, wide(), ideal), booted(t, wide(), ideal)
		a.calls(0)
		b.same("the other one")
		b.calls(0)
		if !sameFiles(a.w.Files(), b.w.Files()) || !sameTalks(a.w.Talks(), b.w.Talks()) || !sameCalls(a.w.Calls(), b.w.Calls()) {
			t.Error("the same befell both")
		}
		a.does(api.OK, fuse(0), tick(3))
		b.says(0, "SET k 1")
		b.synced(0)
		a.says(0, "GET k")
		a.synced(0)
		a.got(0, "$-1|")
		b.got(0, "+OK|")
	})
}
