package vault_test

import (
	"bytes"
	"fmt"
	"slices"
	"testing"

	"intaglio/api"
)

// call is a call of acts: what comes ahead of it, what it is, and what is found behind it, if it does not come to its end, and if it does.
type call struct {
	name     string
	acts     int
	ahead    func(w *twin)
	do       func(w *twin) api.Errno
	old, now [][]byte
}

// calls are all calls that have acts, but Boot.
func calls() []call {
	strange := func(w *twin) {
		w.edit("A", nil)
		w.edit("head.new", []byte("x"))
		w.edit("snap.0.0", []byte("x"))
		w.edit("z", nil)
	}
	begun := func(w *twin) {
		w.begun(texts("a"))
		w.add("b")
		w.tells("commit", w.commit(), api.OK)
		w.add("c")
	}
	begin := func(w *twin) api.Errno { return w.begin(texts("new", "newer")) }
	return []call{
		{"the first Begin", 11, func(w *twin) { w.boot() }, begin, nil, texts("new", "newer")},
		{"the first Begin, files besides", 15, func(w *twin) { strange(w); w.boot() }, begin, nil, texts("new", "newer")},
		{"a Begin", 13, func(w *twin) { begun(w); w.crash(); w.boot() }, begin, texts("a", "b"), texts("new", "newer")},
		{"a Begin, files besides", 17, func(w *twin) { begun(w); strange(w); w.boot() }, begin, texts("a", "b"), texts("new", "newer")},
		{"a Begin, files gone", 11, func(w *twin) { w.begun(nil); w.boot(); w.load(nil) }, begin, nil, texts("new", "newer")},
		{"a Rewrite", 13, begun, func(w *twin) api.Errno { return w.rewrite(texts("a", "b", "c"), false) }, texts("a", "b"), texts("a", "b", "c")},
		{"a Rewrite that turns", 13, begun, func(w *twin) api.Errno { return w.rewrite(texts("a", "b", "c"), true) }, texts("a", "b"), texts("a", "b", "c")},
		{"a Rewrite, files besides", 17, func(w *twin) { begun(w); strange(w) }, func(w *twin) api.Errno { return w.rewrite(nil, true) }, texts("a", "b"), nil},
		{"an Add", 1, begun, func(w *twin) api.Errno { return w.add("d") }, texts("a", "b"), texts("a", "b")},
		{"a Commit", 3, begun, func(w *twin) api.Errno { return w.commit() }, texts("a", "b"), texts("a", "b", "c")},
	}
}

// found boots, and tells all that is found.
func (w *twin) found() ([][]byte, api.Errno) {
	w.Helper()
	f, e := w.boot()
	return slices.Concat(f.Entries, f.Recs), e
}

// P21.3, P21.4, P21.6: power that goes at any act ends the vault; a boot behind it finds what was there, or what was to be, and never tells that somebody tampered.
func TestPowerAtEachAct(t *testing.T) {
	cuts := [][]int{nil, {0, 1 << 30, 0}, {1000, 1000, 1000, 1000, 1000, 1000, 1000}, {7, 3, 9, 20, 5, 11, 2}, {-1, -1, -1, -1, -1, -1, -1}, {40, 41, 42, 43, 44, 45, 46}}
	both(t, func(t *testing.T, ideal bool) {
		for _, c := range calls() {
			for fuse := range c.acts + 1 {
				for _, cut := range cuts {
					t.Run(fmt.Sprint(c.name, fuse, cut), func(t *testing.T) {
						w := newTwin(t, ideal, wide())
						c.ahead(w)
						w.fuse(fuse)
						if fuse == c.acts {
							w.tells("call", c.do(w), api.OK)
						} else {
							w.tells("call", c.do(w), api.EDOWN)
							if w.got.p.On() {
								t.Error("still on")
							}
							w.over()
						}
						w.crash(cut...)
						if c.name == "a Begin, files gone" && fuse < 10 {
							// Somebody tampered here; no crash took the head.
							w.refuses("tampered with", api.ETAMPER)
							return
						}
						got, e := w.found()
						if e != api.OK || !same(got, c.old) && !same(got, c.now) || fuse == c.acts && !same(got, c.now) {
							t.Fatalf("%d, %q, want %q or %q", e, got, c.old, c.now)
						}
						w.tells("begin", w.begin(got), api.OK)
						w.finds(got, nil)
					})
				}
			}
		}
	})
}

// P21.3: the acts of a Rewrite, in their order: which files are there behind each, and how many bytes of them are kept.
func TestActsInOrder(t *testing.T) {
	const log, snapshot, fresh = 37, 64, 48 // how many bytes these have, without entries and commands
	file := func(name string, data, kept int) string { return fmt.Sprint(name, " ", kept, "/", data, " ") }
	head, old := file("head", 48, 48), file("log.1.1", log, log)
	oldSnap := file("snap.1.1", snapshot, snapshot)
	newLog, newSnap := file("log.1.2", log, log), file("snap.1.2", snapshot, snapshot)
	want := []string{
		head + old + oldSnap + file("strange", 0, 0),
		head + old + oldSnap,
		head + old + oldSnap + file("snap.1.2", 0, 0),
		head + old + oldSnap + file("snap.1.2", snapshot, 0),
		head + old + oldSnap + newSnap,
		head + old + file("log.1.2", 0, 0) + oldSnap + newSnap,
		head + old + file("log.1.2", log, 0) + oldSnap + newSnap,
		head + old + newLog + oldSnap + newSnap,
		head + file("head.new", 0, 0) + old + newLog + oldSnap + newSnap,
		head + file("head.new", fresh, 0) + old + newLog + oldSnap + newSnap,
		head + file("head.new", fresh, fresh) + old + newLog + oldSnap + newSnap,
		head + old + newLog + oldSnap + newSnap,
		head + old + newLog + oldSnap + newSnap,
		head + old + newLog + newSnap,
		head + newLog + newSnap,
	}
	both(t, func(t *testing.T, ideal bool) {
		for fuse := range len(want) {
			w := newTwin(t, ideal, wide()).begun(nil)
			w.edit("strange", nil)
			ahead := w.file("head")
			w.fuse(fuse)
			w.rewrite(nil, true)
			got := ""
			for _, f := range w.files() {
				got += file(f.Name, len(f.Data), f.Kept)
			}
			if got != want[fuse] {
				t.Errorf("%d acts: %s, want %s", fuse, got, want[fuse])
			}
			w.crash()
			if renamed := !bytes.Equal(w.file("head"), ahead); renamed != (fuse >= 11) {
				t.Errorf("%d acts: the head is new: %v", fuse, renamed)
			}
			if raised := w.got.c.Pin() != (api.Pin{Life: 1, Num: 1}); raised != (fuse >= 12) {
				t.Errorf("%d acts: pin %v", fuse, w.got.c.Pin())
			}
		}
	})
}

// P21.4: the acts of a Commit, in their order: the bind, the log's Sync, the cell.
func TestActsOfACommit(t *testing.T) {
	both(t, func(t *testing.T, ideal bool) {
		for fuse := range 4 {
			w := newTwin(t, ideal, wide()).begun(nil)
			w.add("a")
			w.fuse(fuse)
			w.commit()
			size, kept := 37+22, 37
			if fuse >= 1 {
				size += 37
			}
			if fuse >= 2 {
				kept = size
			}
			l := w.files()
			if len(l) != 3 || l[1].Name != "log.1.1" || len(l[1].Data) != size || l[1].Kept != kept {
				t.Errorf("%d acts: %s", fuse, told(l))
			}
			if pin := w.got.c.Pin(); pin.Num != 1+fuse/3 {
				t.Errorf("%d acts: pin %v", fuse, pin)
			}
		}
	})
}

// cellErrors are what lets the cell tell an error to the next Raise.
func cellErrors() map[string]func(w *twin) api.Errno {
	return map[string]func(w *twin) api.Errno{
		"the cell's power goes": func(w *twin) api.Errno {
			w.each(func(w world) { w.q.Fuse(0) })
			return api.EDOWN
		},
		"the cell's power is off": func(w *twin) api.Errno {
			w.each(func(w world) { w.q.Fuse(0); w.q.Act() })
			return api.EDOWN
		},
		"the cell's pins are spent": func(w *twin) api.Errno { return api.ESPENT },
		"somebody else raised it": func(w *twin) api.Errno {
			w.each(func(w world) { w.c.Raise(api.Pin{Life: 1, Num: 2}) })
			return api.EORDER
		},
		"another vault began": func(w *twin) api.Errno {
			w.each(func(w world) { w.c.Birth(); w.c.Raise(api.Pin{Life: 2, Num: 0}) })
			return api.EORDER
		},
	}
}

// P21.3, P21.4: each error of the cell ends the vault in Begin, in Rewrite and in Commit, also ESPENT; what was laid by then stays.
func TestCellErrors(t *testing.T) {
	both(t, func(t *testing.T, ideal bool) {
		for what, spoil := range cellErrors() {
			for _, name := range []string{"begin", "rewrite", "turn", "commit"} {
				t.Run(what+", "+name, func(t *testing.T) {
					cells := wide()
					if what == "the cell's pins are spent" {
						cells.Pin = 1
						if name == "begin" {
							cells.Pin = 0
						}
					}
					w := apart(t, ideal, wide(), cells)
					w.boot()
					if name != "begin" {
						w.tells("begin", w.begin(texts("a")), api.OK)
						w.add("b")
					}
					want := spoil(w)
					before := *w.m
					switch name {
					case "begin":
						w.tells(name, w.begin(texts("a")), want)
						w.has("head", "log.1.1", "snap.1.1")
					case "commit":
						w.tells(name, w.commit(), want)
					default:
						w.tells(name, w.rewrite(texts("c"), name == "turn"), want)
						w.has("head", "log.1.1", "log.1.2", "snap.1.1", "snap.1.2")
					}
					w.is(before.epoch, before.life, before.gen, before.pending)
					w.over()
				})
			}
		}
	})
}

// P21.3: the disk's own power may go apart from the cell's: the old files are removed behind the cell's Raise.
func TestDisksPowerApart(t *testing.T) {
	for fuse := range 14 {
		w := apart(t, true, wide(), wide())
		w.begun(texts("a"))
		w.add("b")
		w.fuse(fuse)
		want := api.EDOWN
		if fuse >= 12 {
			want = api.OK
		}
		w.tells("rewrite", w.rewrite(texts("a", "b"), true), want)
		if raised := w.got.c.Pin().Num == 2; raised != (fuse >= 10) {
			t.Errorf("%d acts: pin %v", fuse, w.got.c.Pin())
		}
		w.crash()
		got, e := w.found()
		if e != api.OK || !same(got, texts("a")) && !same(got, texts("a", "b")) {
			t.Errorf("%d acts: %d, %q", fuse, e, got)
		}
	}
}

// P21.4: errors of the disk, but that power goes: the log is gone.
func TestLogGone(t *testing.T) {
	both(t, func(t *testing.T, ideal bool) {
		for _, commit := range []bool{false, true} {
			w := newTwin(t, ideal, wide()).begun(nil)
			w.add("a")
			w.load(without(w.files(), "log.1.1"))
			if commit {
				w.tells("commit", w.commit(), api.ENONE)
			} else {
				w.tells("add", w.add("b"), api.ENONE)
			}
			w.is(0, 1, 1, 1)
			w.over()
			w.refuses("the log is gone", api.ETAMPER)
		}
	})
}

// P21.3: a disk without power tells that at the first act of all.
func TestNoPower(t *testing.T) {
	both(t, func(t *testing.T, ideal bool) {
		for _, c := range calls() {
			w := newTwin(t, ideal, wide())
			c.ahead(w)
			w.fuse(0)
			w.each(func(w world) { w.p.Act() })
			w.tells(c.name, c.do(w), api.EDOWN)
			w.over()
		}
	})
}

// P21.7: of two vaults of one world, one behind the other, the older one ends at its next pin, and nothing is sealed twice.
func TestTwoVaults(t *testing.T) {
	both(t, func(t *testing.T, ideal bool) {
		w := newTwin(t, ideal, wide()).begun(texts("a"))
		w.add("b")
		w.commit()
		w.add("c")
		v, m := w.v, w.m
		w.begun(texts("a", "b"))
		w.add("d")
		w.v, w.m = v, m
		w.tells("the older one", w.commit(), api.ENONE)
		w.over()
		if w.got.b.Repeats() != 0 {
			t.Error(w.got.b.Repeats())
		}
		w.finds(texts("a", "b"), nil)
	})
}
