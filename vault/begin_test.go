package vault_test

import (
	"bytes"
	"math"
	"slices"
	"strconv"
	"testing"

	"intaglio/api"
	"intaglio/vault"
)

// told is what a vault tells of its generation.
func (w *twin) is(epoch, life, gen, pending int) {
	w.Helper()
	if v := w.v; v.Epoch() != epoch || v.Life() != life || v.Gen() != gen || v.Pending() != pending {
		w.Fatalf("epoch %d, life %d, gen %d, pending %d, want %d, %d, %d, %d", v.Epoch(), v.Life(), v.Gen(), v.Pending(), epoch, life, gen, pending)
	}
}

// P21.3: Begin makes the first generation of a life, of the epoch that was found; Rewrite the next one, of the next epoch, if it turns.
func TestGenerations(t *testing.T) {
	both(t, func(t *testing.T, ideal bool) {
		w := newTwin(t, ideal, wide())
		epoch := 0
		for life := 1; life < 4; life++ {
			w.boot()
			w.is(epoch, life, 0, 0)
			w.tells("begin", w.begin(texts("a")), api.OK)
			w.is(epoch, life, 1, 0)
			for gen := 2; gen < 5; gen++ {
				w.add("b")
				w.add("c")
				w.is(epoch, life, gen-1, 2)
				turn := (life+gen)%2 == 0
				if turn {
					epoch++
				}
				w.tells("rewrite", w.rewrite(texts("a", "b"), turn), api.OK)
				w.is(epoch, life, gen, 0)
				snapshot, log := names(life, gen)
				w.has("head", log, snapshot)
				if w.got.c.Pin() != (api.Pin{Life: life, Num: gen}) {
					t.Fatal(w.got.c.Pin())
				}
			}
		}
		w.finds(texts("a", "b"), nil)
	})
}

// P21.3: DOC.md's example of a rewrite that turns.
func TestTurnExample(t *testing.T) {
	w := newTwin(t, false, wide()).begun(nil)
	w.tells("rewrite", w.rewrite(nil, true), api.OK)
	w.has("head", "log.1.2", "snap.1.2")
	w.is(1, 1, 2, 0)
}

// P21.3: Begin goes once; ahead of it nothing else does, and nothing goes that asks for a vault that goes on.
func TestWrongTimes(t *testing.T) {
	both(t, func(t *testing.T, ideal bool) {
		w := newTwin(t, ideal, wide())
		w.boot()
		// Told ahead of all that these calls would tell besides.
		tooMuch := slices.Repeat(texts("x"), 1001)
		for range 2 {
			w.tells("add", w.add("a"), api.ESTATE)
			w.tells("add", w.add(string(filled(50001))), api.ESTATE)
			w.tells("commit", w.commit(), api.ESTATE)
			w.tells("rewrite", w.rewrite(nil, false), api.ESTATE)
			w.tells("rewrite", w.rewrite(tooMuch, true), api.ESTATE)
			w.is(0, 1, 0, 0)
			w.has()
		}
		w.tells("begin", w.begin(texts("a")), api.OK)
		w.fuse(0)
		for range 2 {
			w.tells("begin", w.begin(nil), api.ESTATE)
			w.tells("begin", w.begin(tooMuch), api.ESTATE)
		}
		if !w.got.p.On() {
			t.Error("an act")
		}
		w.fuse(-1)
		w.tells("add", w.add("a"), api.OK)
		w.tells("begin", w.begin(nil), api.ESTATE)
		w.is(0, 1, 1, 1)
	})
}

// spent asks that a generation more is told ESPENT, as often as it is asked for, and that nothing has changed.
func (w *twin) spent(entries [][]byte, turn bool) {
	w.Helper()
	w.fuse(0)
	for range 2 {
		if w.v.Gen() == 0 {
			w.tells("begin", w.begin(entries), api.ESPENT)
			w.tells("rewrite", w.rewrite(entries, turn), api.ESTATE)
		} else {
			w.tells("rewrite", w.rewrite(entries, turn), api.ESPENT)
		}
	}
	if !w.got.p.On() {
		w.Fatal("an act")
	}
	w.fuse(-1)
}

// P21.3: as many generations as Gen, and as many as Pin, and not one more; each life has its own.
func TestGenerationsSpent(t *testing.T) {
	of := map[string]func(b *api.Bounds, n int){
		"gen":  func(b *api.Bounds, n int) { b.Gen = n },
		"pin":  func(b *api.Bounds, n int) { b.Pin = n },
		"both": func(b *api.Bounds, n int) { b.Gen, b.Pin = n, n },
	}
	both(t, func(t *testing.T, ideal bool) {
		for name, set := range of {
			for _, n := range []int{math.MinInt, -1, 0, 1, 2, 3} {
				bounds := wide()
				set(&bounds, n)
				w := newTwin(t, ideal, bounds)
				for life := 1; life < 3; life++ {
					w.boot()
					for gen := range max(n, 0) {
						if gen == 0 {
							w.tells(name, w.begin(texts("a")), api.OK)
						} else {
							w.tells(name, w.rewrite(texts("a"), gen%2 == 0), api.OK)
						}
					}
					w.is((max(n, 1)-1)/2*life, life, max(n, 0), 0)
					w.spent(texts("a"), true)
					w.spent(nil, false)
				}
			}
		}
	})
}

// P21.3: as many epochs as Epoch allows, over all lives; without turn it goes on.
func TestEpochsSpent(t *testing.T) {
	both(t, func(t *testing.T, ideal bool) {
		for _, n := range []int{math.MinInt, -1, 0, 1, 2, 3} {
			bounds := wide()
			bounds.Epoch = n
			w := newTwin(t, ideal, bounds)
			for epoch := range max(n, 0) {
				w.begun(texts("a"))
				w.tells("rewrite", w.rewrite(texts("a"), true), api.OK)
				w.is(epoch+1, epoch+1, 2, 0)
			}
			w.begun(texts("b"))
			w.spent(texts("b"), true)
			w.add("c")
			w.tells("rewrite", w.rewrite(texts("b"), false), api.OK)
			w.spent(nil, true)
			w.add("d")
			w.tells("commit", w.commit(), api.OK)
			w.finds(texts("b"), texts("d"))
		}
	})
}

// P21.3: one more than the chunks are is at most Nonce, in Begin and in Rewrite.
func TestChunksSpent(t *testing.T) {
	both(t, func(t *testing.T, ideal bool) {
		for _, n := range []int{math.MinInt, -1, 0, 1, 2, 3, 5} {
			bounds := wide()
			bounds.Nonce = n
			chunks := slices.Repeat([][]byte{filled(252)}, max(n, 1)-1)
			more := append(slices.Clone(chunks), nil)
			w := newTwin(t, ideal, bounds)
			w.boot()
			w.spent(more, false)
			if n <= 0 {
				w.spent(nil, false)
				continue
			}
			w.tells("begin", w.begin(chunks), api.OK)
			w.spent(more, true)
			w.tells("rewrite", w.rewrite(chunks, true), api.OK)
			w.spent(more, false)
			if n > 1 {
				// Entries that share a chunk are no more chunks.
				chunks = append(chunks[1:], filled(100), filled(100))
				w.tells("rewrite", w.rewrite(chunks, false), api.OK)
			}
			w.finds(chunks, nil)
		}
	})
}

// P21.3: bounds count for what they are named; the others are the cell's, or other layers'.
func TestOtherBounds(t *testing.T) {
	for _, n := range []int{math.MinInt, -1, 0, 1} {
		bounds := wide()
		bounds.Seq, bounds.Life, bounds.Conn = n, n, n
		w := newTwin(t, true, bounds).begun(texts("a"))
		w.add("b")
		w.tells("commit", w.commit(), api.OK)
		w.tells("rewrite", w.rewrite(texts("a", "b"), true), api.OK)
		w.begun(texts("c"))
	}
}

// P21.2, P21.3: bounds above 2^40 count as that: no epoch is above it.
func TestGreatestBounds(t *testing.T) {
	both(t, func(t *testing.T, ideal bool) {
		for _, n := range []int{most - 1, most, most + 1, math.MaxInt} {
			bounds := api.Bounds{Nonce: n, Pin: n, Gen: n, Epoch: n}
			w := newTwin(t, ideal, bounds)
			w.forgeAll(most-2, 1, 1, "", nil, bindOf(1, 1))
			w.begun(nil)
			w.tells("rewrite", w.rewrite(nil, true), api.OK)
			if n >= most {
				w.tells("rewrite", w.rewrite(nil, true), api.OK)
				w.is(most, 1, 3, 0)
			}
			w.tells("rewrite", w.rewrite(nil, true), api.ESPENT)
			w.add("a")
			w.tells("commit", w.commit(), api.OK)
			w.tells("rewrite", w.rewrite(nil, false), api.OK)
			w.finds(nil, nil)
		}
	})
}

// P21.3: an epoch that was found above its bound: Begin tells ESPENT, as often as it is called; Boot does not.
func TestFoundEpochAboveItsBound(t *testing.T) {
	bounds := wide()
	w := newTwin(t, true, bounds).begun(texts("a"))
	w.rewrite(texts("a"), true)
	w.rewrite(texts("a"), true)
	w.bounds.Epoch = 1
	w.finds(texts("a"), nil)
	w.is(2, 2, 0, 0)
	w.tells("begin", w.begin(texts("a")), api.ESPENT)
	w.tells("begin", w.begin(texts("a")), api.ESPENT)
	w.bounds.Epoch = 2
	w.begun(texts("b"))
	w.tells("turn", w.rewrite(nil, true), api.ESPENT)
}

// P21.3: entries of which there is no snapshot: ELONG, behind ESPENT, and nothing has changed.
func TestEntriesTooLong(t *testing.T) {
	both(t, func(t *testing.T, ideal bool) {
		for _, c := range []struct{ good, bad [][]byte }{
			{slices.Repeat(texts("x"), 1000), slices.Repeat(texts("x"), 1001)},
			{[][]byte{filled(60000)}, [][]byte{filled(60001)}},
		} {
			w := newTwin(t, ideal, wide())
			w.boot()
			w.fuse(0)
			for range 2 {
				w.tells("begin", w.begin(c.bad), api.ELONG)
			}
			w.fuse(-1)
			w.is(0, 1, 0, 0)
			w.tells("begin", w.begin(c.good), api.OK)
			w.add("a")
			w.tells("rewrite", w.rewrite(c.bad, true), api.ELONG)
			w.is(0, 1, 1, 1)
			w.tells("commit", w.commit(), api.OK)
			w.tells("rewrite", w.rewrite(c.good, true), api.OK)
			w.finds(c.good, nil)
			bounds := wide()
			bounds.Gen = 1
			w = newTwin(t, ideal, bounds).begun(nil)
			w.tells("rewrite", w.rewrite(c.bad, true), api.ESPENT)
			bounds = wide()
			bounds.Nonce = 1
			w = newTwin(t, ideal, bounds)
			w.boot()
			w.tells("begin", w.begin(c.bad), api.ESPENT)
			w.tells("begin", w.begin(c.good), api.ESPENT)
			w.tells("begin", w.begin(nil), api.OK)
		}
	})
}

// P21.3: a snapshot of more bytes than a file may have is the disk's error, by which the vault ends.
func TestSnapshotTooGreat(t *testing.T) {
	w := newTwin(t, true, wide()).begun(texts("a"))
	much := slices.Repeat([][]byte{filled(60000)}, 18)
	w.tells("rewrite", w.rewrite(much, false), api.EFULL)
	w.over()
	w.finds(texts("a"), nil)
	w.tells("begin", w.begin(much), api.EFULL)
	w.over()
	w.finds(texts("a"), nil)
	w.tells("begin", w.begin(much[1:]), api.OK)
	w.finds(much[1:], nil)
}

// over asks that the vault has ended, and stays so.
func (w *twin) over() {
	w.Helper()
	ahead := *w.m
	for range 2 {
		w.tells("begin", w.begin(nil), api.ESTATE)
		w.tells("begin", w.begin(slices.Repeat(texts("x"), 1001)), api.ESTATE)
		w.tells("rewrite", w.rewrite(nil, false), api.ESTATE)
		w.tells("rewrite", w.rewrite(nil, true), api.ESTATE)
		w.tells("add", w.add("a"), api.ESTATE)
		w.tells("add", w.add(string(filled(50001))), api.ESTATE)
		w.tells("commit", w.commit(), api.ESTATE)
		if w.v.Full() {
			w.Fatal("full")
		}
		w.is(ahead.epoch, ahead.life, ahead.gen, ahead.pending)
		// The power comes again; the vault does not.
		w.each(func(w world) { w.p.Mend(); w.q.Mend() })
	}
}

// P21.3: files that are there besides go, by rising names: each power that ends leaves the later ones.
func TestFilesBesides(t *testing.T) {
	both(t, func(t *testing.T, ideal bool) {
		strange := []string{"A", "head.new", "head.old", "heae", "log.0.0", "log.1.1", "log.1.10", "log.2.1", "snap", "snap.0.0", "snap.1.1", "snap.1.2", "snap.2.1", "~"}
		for fuse := range len(strange) + 1 {
			for _, nothing := range []bool{true, false} {
				w := newTwin(t, ideal, wide())
				kept := []string{}
				if !nothing {
					w.begun(texts("a"))
					kept = []string{"head", "log.1.1", "snap.1.1"}
				}
				for _, name := range strange {
					if !slices.Contains(kept, name) {
						w.edit(name, []byte(name))
					}
				}
				w.boot()
				left := slices.DeleteFunc(slices.Clone(strange), func(name string) bool { return slices.Contains(kept, name) })
				w.fuse(fuse)
				w.tells("begin", w.begin(texts("b")), api.EDOWN)
				left = append(left[min(fuse, len(left)):], kept...)
				slices.Sort(left)
				if got := w.got.d.Names(); fuse <= len(strange)-len(kept) && !slices.Equal(got, left) {
					t.Fatalf("%d acts: %q, want %q", fuse, got, left)
				}
			}
		}
		w := newTwin(t, ideal, wide())
		for _, name := range strange {
			w.edit(name, []byte(name))
		}
		w.begun(texts("a"))
		w.has("head", "log.1.1", "snap.1.1")
		w.edit("snap.1.0", nil)
		w.rewrite(texts("b"), false)
		w.has("head", "log.1.2", "snap.1.2")
		for n := range 60 {
			w.edit("strange"+strconv.Itoa(n), nil)
		}
		w.rewrite(texts("c"), true)
		w.has("head", "log.1.3", "snap.1.3")
		w.finds(texts("c"), nil)
	})
}

// P21.3: the files that were taken are removed, if they are there: what is gone already is no error.
func TestTakenFilesGone(t *testing.T) {
	both(t, func(t *testing.T, ideal bool) {
		for _, gone := range [][]string{{"snap.1.1"}, {"log.1.1"}, {"snap.1.1", "log.1.1"}, {"head"}, {"head", "snap.1.1", "log.1.1"}} {
			w := newTwin(t, ideal, wide()).begun(texts("a"))
			w.load(without(w.files(), gone...))
			w.tells("rewrite", w.rewrite(texts("b"), true), api.OK)
			w.has("head", "log.1.2", "snap.1.2")
			w.finds(texts("b"), nil)
			w.load(without(w.files(), "snap.1.2", "log.1.2"))
			w.tells("begin", w.begin(texts("c")), api.OK)
			w.has("head", "log.2.1", "snap.2.1")
			w.finds(texts("c"), nil)
		}
	})
}

// P21.2, P21.3: a generation that who has the key made, of numbers that no vault has: it is taken as any other, and goes.
func TestGenerationOfNoVault(t *testing.T) {
	both(t, func(t *testing.T, ideal bool) {
		for _, g := range [][3]int{{0, 0, 0}, {3, 0, 5}, {3, 5, 0}, {most, most, most}, {0, 1, 7}} {
			w := newTwin(t, ideal, api.Bounds{Nonce: 9, Pin: 9, Gen: 9, Epoch: most})
			w.forgeAll(g[0], g[1], g[2], "", texts("x"), bindOf(0, 0))
			w.finds(texts("x"), nil)
			w.is(g[0], 1, 0, 0)
			w.tells("begin", w.begin(texts("y")), api.OK)
			w.has("head", "log.1.1", "snap.1.1")
			w.finds(texts("y"), nil)
		}
	})
}

// P21.2, rule 6: a vault that Boot did not make.
func TestNoVaults(t *testing.T) {
	long := filled(50001)
	for what, v := range noVaults() {
		t.Run(what, func(t *testing.T) {
			for range 2 {
				for _, e := range []api.Errno{v.Begin(nil), v.Begin([][]byte{filled(60001)}), v.Rewrite(nil, false), v.Rewrite([][]byte{filled(60001)}, true), v.Add(nil), v.Add(long), v.Commit()} {
					if e != api.ENIL {
						t.Error(e)
					}
				}
				if v.Full() || v.Epoch() != 0 || v.Life() != 0 || v.Gen() != 0 || v.Pending() != 0 {
					t.Error(v.Full(), v.Epoch(), v.Life(), v.Gen(), v.Pending())
				}
			}
		})
	}
	w := newTwin(t, true, wide())
	w.edit("head", nil)
	v, _, _ := vault.Boot(w.got.d, w.got.c, w.got.b, wide())
	if e := v.Begin(nil); e != api.ENIL || v.Gen() != 0 {
		t.Error(e)
	}
}

// Rules 3 and 4: nil and empty lists are one; what is handed in is not changed, nor what stands behind it, and not kept.
func TestMemoryOfEntries(t *testing.T) {
	both(t, func(t *testing.T, ideal bool) {
		room := []byte("entryroom")
		entries := [][]byte{room[:5], {}, nil, []byte("second"), []byte("behind")}
		w := newTwin(t, ideal, wide())
		w.boot()
		for i, call := range []func() api.Errno{
			func() api.Errno { return w.begin(entries[:4]) },
			func() api.Errno { return w.rewrite(entries[:4], true) },
		} {
			w.tells("call", call(), api.OK)
			if string(room) != "entryroom" || string(entries[4]) != "behind" || entries[2] != nil || len(entries[1]) != 0 {
				t.Errorf("%d: %q", i, entries)
			}
		}
		w.tells("add", w.add("a"), api.OK)
		rec := []byte("commandroom")
		w.each(func(w world) { w.d.Sync("log.1.2") })
		if e := w.v.Add(rec[:7]); e != api.OK || string(rec) != "commandroom" {
			t.Errorf("%d, %q", e, rec)
		}
		w.m.add([]byte("command"))
		clear(rec)
		clear(room)
		clear(entries)
		w.tells("add", w.add(""), api.OK)
		if e := w.v.Add(nil); e != api.OK {
			t.Error(e)
		}
		w.m.add([]byte{})
		w.tells("commit", w.commit(), api.OK)
		w.finds(texts("entry", "", "", "second"), texts("a", "command", "", ""))
		if !bytes.Equal(w.file("head")[:8], num(1)) {
			t.Error("epoch")
		}
		w.tells("begin", w.begin([][]byte{}), api.OK)
		w.tells("rewrite", w.rewrite(nil, false), api.OK)
		w.finds(nil, nil)
	})
}
