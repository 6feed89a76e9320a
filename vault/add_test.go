package vault_test

import (
	"fmt"
	"math"
	"slices"
	"testing"

	"intaglio/api"
)

// P21.4: a command has at most 50000 bytes; one of more changes nothing.
func TestLongCommands(t *testing.T) {
	both(t, func(t *testing.T, ideal bool) {
		w := newTwin(t, ideal, wide()).begun(nil)
		var want [][]byte
		for _, n := range []int{0, 1, 49999, 50000} {
			w.tells("add", w.add(string(filled(n))), api.OK)
			want = append(want, filled(n))
			w.fuse(0)
			for _, more := range []int{50001, 50002, 60000, 1 << 21} {
				w.tells("add more", w.add(string(filled(more))), api.ELONG)
			}
			w.fuse(-1)
			w.is(0, 1, 1, len(want))
		}
		w.tells("commit", w.commit(), api.OK)
		w.finds(nil, want)
	})
}

// P21.4: the log takes commands as long as it has fewer than Nonce - 1 records: the last one is left for a bind.
func TestFull(t *testing.T) {
	both(t, func(t *testing.T, ideal bool) {
		for nonce := 1; nonce < 8; nonce++ {
			// each: a commit behind each command, which is a record too.
			for _, each := range []bool{false, true} {
				bounds := wide()
				bounds.Nonce = nonce
				w := newTwin(t, ideal, bounds)
				w.boot()
				if w.v.Full() {
					t.Error("ahead of Begin")
				}
				w.tells("begin", w.begin(nil), api.OK)
				records, added := 1, 0
				for records < nonce-1 {
					if w.v.Full() {
						t.Errorf("nonce %d: full of %d records", nonce, records)
					}
					w.tells("add", w.add("a"), api.OK)
					records, added = records+1, added+1
					if each {
						w.tells("commit", w.commit(), api.OK)
						records++
					}
				}
				for range 2 {
					if !w.v.Full() {
						t.Errorf("nonce %d: not full of %d records", nonce, records)
					}
					w.fuse(0)
					w.tells("long", w.add(string(filled(50001))), api.ELONG)
					w.tells("add", w.add("a"), api.ESPENT)
					w.fuse(-1)
					w.tells("commit", w.commit(), api.OK)
				}
				w.is(0, 1, 1, 0)
				w.finds(nil, slices.Repeat(texts("a"), added))
				w.tells("begin", w.begin(nil), api.OK)
				if w.v.Full() != (nonce <= 2) {
					t.Errorf("nonce %d: behind Begin %v", nonce, w.v.Full())
				}
			}
		}
	})
}

// P21.4: a log that is full is left by a rewrite.
func TestFullNoMore(t *testing.T) {
	bounds := wide()
	bounds.Nonce = 3
	w := newTwin(t, true, bounds).begun(nil)
	w.tells("add", w.add("a"), api.OK)
	w.tells("add", w.add("b"), api.ESPENT)
	w.tells("rewrite", w.rewrite(texts("a"), false), api.OK)
	if w.v.Full() {
		t.Error("full")
	}
	w.tells("add", w.add("b"), api.OK)
	w.tells("commit", w.commit(), api.OK)
	w.finds(texts("a"), texts("b"))
}

// P21.4: a commit of none pending is no act, seals nothing, and goes also when pins are spent.
func TestCommitOfNone(t *testing.T) {
	both(t, func(t *testing.T, ideal bool) {
		for _, pins := range []int{1, 2, 5} {
			bounds := wide()
			bounds.Pin = pins
			w := newTwin(t, ideal, bounds).begun(texts("a"))
			for range pins - 1 {
				w.tells("add", w.add("b"), api.OK)
				w.tells("commit", w.commit(), api.OK)
			}
			sealed := w.got.b.Sealed()
			w.fuse(0)
			for range 3 {
				w.tells("commit", w.commit(), api.OK)
			}
			if !w.got.p.On() || w.got.b.Sealed() != sealed {
				t.Errorf("power %v, %d sealed", w.got.p.On(), w.got.b.Sealed()-sealed)
			}
			w.each(func(w world) { w.p.Act() })
			w.tells("commit without power", w.commit(), api.OK)
		}
	})
}

// P21.4: the pins of a life are counted up to their bound; then ESPENT is told, and nothing has changed.
func TestPinsSpent(t *testing.T) {
	both(t, func(t *testing.T, ideal bool) {
		for _, pins := range []int{1, 2, 4} {
			bounds := wide()
			bounds.Pin = pins
			w := newTwin(t, ideal, bounds).begun(nil)
			var want [][]byte
			for n := range pins - 1 {
				rec := fmt.Sprint(n)
				w.tells("add", w.add(rec), api.OK)
				w.tells("commit", w.commit(), api.OK)
				want = append(want, []byte(rec))
				if w.got.c.Pin() != (api.Pin{Life: 1, Num: n + 2}) {
					t.Fatal(w.got.c.Pin())
				}
			}
			w.tells("add", w.add("lost"), api.OK)
			w.fuse(0)
			for range 2 {
				w.tells("commit", w.commit(), api.ESPENT)
				w.tells("rewrite", w.rewrite(nil, false), api.ESPENT)
			}
			w.fuse(-1)
			w.tells("add", w.add("lost too"), api.OK)
			w.is(0, 1, 1, 2)
			w.finds(nil, want)
			w.tells("begin", w.begin(nil), api.OK)
			if w.got.c.Pin() != (api.Pin{Life: 2, Num: 1}) {
				t.Error(w.got.c.Pin())
			}
		}
	})
}

// P21.4: DOC.md's example: of one pin the first commit tells ESPENT.
func TestOnePin(t *testing.T) {
	w := newTwin(t, false, api.Bounds{Nonce: 9, Pin: 1, Gen: 9, Epoch: 9}).begun(nil)
	w.tells("add", w.add("a"), api.OK)
	w.tells("commit", w.commit(), api.ESPENT)
	w.is(0, 1, 1, 1)
}

// P21.4: what is pending: the commands behind the last bind.
func TestPending(t *testing.T) {
	both(t, func(t *testing.T, ideal bool) {
		w := newTwin(t, ideal, wide()).begun(texts("a"))
		w.is(0, 1, 1, 0)
		for round := range 3 {
			for n := range 3 {
				w.add("b")
				w.is(round, 1, 1+2*round, n+1)
			}
			w.tells("commit", w.commit(), api.OK)
			w.is(round, 1, 1+2*round, 0)
			w.add("c")
			w.tells("rewrite", w.rewrite(nil, false), api.OK)
			w.is(round, 1, 2+2*round, 0)
			w.add("d")
			w.add("e")
			w.tells("rewrite", w.rewrite(nil, true), api.OK)
			w.is(round+1, 1, 3+2*round, 0)
			w.tells("commit", w.commit(), api.OK)
		}
		if w.got.c.Pin() != (api.Pin{Life: 1, Num: 10}) {
			t.Error(w.got.c.Pin())
		}
	})
}

// P21.4: a log that has as many bytes as a file may have is the disk's error, by which the vault ends.
func TestLogTooGreat(t *testing.T) {
	both(t, func(t *testing.T, ideal bool) {
		w := newTwin(t, ideal, wide()).begun(nil)
		n := 0
		for e := api.OK; e == api.OK; n++ {
			e = w.add(string(filled(50000)))
			if e != api.OK {
				w.tells("add", e, api.EFULL)
				break
			}
			if n%5 == 4 {
				w.tells("commit", w.commit(), api.OK)
			}
		}
		if n != 20 {
			t.Errorf("%d commands", n)
		}
		w.is(0, 1, 1, 0)
		w.over()
		f, e := w.boot()
		if e != api.OK || len(f.Recs) != 20 {
			t.Errorf("%d, %d commands", e, len(f.Recs))
		}
	})
}

// P21.4: the bind that is one too long for the file ends the vault too; what was committed is there.
func TestNoRoomForABind(t *testing.T) {
	both(t, func(t *testing.T, ideal bool) {
		w := newTwin(t, ideal, wide()).begun(nil)
		w.tells("add", w.add("a"), api.OK)
		w.tells("commit", w.commit(), api.OK)
		for range 20 {
			w.tells("add", w.add(string(filled(50000))), api.OK)
		}
		left := api.MaxFile - len(w.file("log.1.1"))
		w.tells("add", w.add(string(filled(left-21-30))), api.OK)
		w.tells("commit", w.commit(), api.EFULL)
		w.is(0, 1, 1, 21)
		w.over()
		w.finds(nil, texts("a"))
	})
}

// P21.3, P21.4: whatever the bounds are, a vault tells what a plain one tells.
func TestSmallBounds(t *testing.T) {
	for _, nonce := range []int{math.MinInt, 0, 1, 2, 3, 4, 5} {
		for _, pin := range []int{-1, 0, 1, 2, 3, 4} {
			for _, gen := range []int{-7, 0, 1, 2, 3} {
				for _, epoch := range []int{-1, 0, 1} {
					w := newTwin(t, true, api.Bounds{Nonce: nonce, Pin: pin, Gen: gen, Epoch: epoch})
					for range 2 {
						w.boot()
						w.begin([][]byte{filled(252), nil})
						w.begin([][]byte{filled(252)})
						w.begin(nil)
						for range 3 {
							w.add("a")
							w.add("b")
							w.commit()
							w.rewrite(texts("c"), true)
							w.add(string(filled(50001)))
							w.add("d")
							w.rewrite([][]byte{filled(60001)}, false)
							w.rewrite(texts("e"), false)
						}
						w.crash(5, 5, 5)
					}
				}
			}
		}
	}
}
