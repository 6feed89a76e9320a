package vault_test

import (
	"bytes"
	"math"
	"reflect"
	"slices"
	"testing"

	"intaglio/api"
	"intaglio/box"
	"intaglio/cell"
	"intaglio/disk"
	"intaglio/snap"
	"intaglio/vault"
)

// P21.2: what no call made is told ahead of all else, and nothing has changed.
func TestBootOfNone(t *testing.T) {
	unmade(func(d *disk.Disk, c *cell.Cell, b *box.Box) {
		for _, bounds := range []api.Bounds{{}, wide(), {Nonce: -1, Pin: -1, Gen: -1, Epoch: -1}} {
			d.Edit("head", []byte("no head"))
			v, f, e := vault.Boot(d, c, b, bounds)
			if e != api.ENIL || v != nil || !reflect.DeepEqual(f, vault.Found{}) || c.Life() != 0 {
				t.Errorf("%v, %v, %v: %d, %v, %v, life %d", d, c, b, e, v, f, c.Life())
			}
		}
	})
	p := disk.Plug()
	p.Fuse(0)
	p.Act()
	for what, b := range map[string]*box.Box{"nil": nil, "new": new(box.Box)} {
		if _, _, e := vault.Boot(disk.New(p), cell.New(p, wide()), b, wide()); e != api.ENIL {
			t.Errorf("%s, no power: %d", what, e)
		}
	}
	if _, _, e := vault.Boot(disk.New(p), nil, box.New(nil, true), wide()); e != api.ENIL {
		t.Errorf("no cell, no power: %d", e)
	}
}

// P21.2: without a head nothing is found, as long as the cell's pin is zero.
func TestBootOfNothing(t *testing.T) {
	both(t, func(t *testing.T, ideal bool) {
		for _, files := range [][]api.File{nil, {{Name: "snap.0.0"}, {Name: "log.0.0", Data: []byte("x")}}, {{Name: "head.new", Data: headOf(box.New([]byte("secret"), false), 0, 1, 1)}, {Name: "snap.1.1"}, {Name: "log.1.1"}}} {
			w := newTwin(t, ideal, wide())
			w.load(files)
			for life := range 3 {
				w.finds(nil, nil)
				if w.v.Life() != life+1 || w.v.Epoch() != 0 || w.v.Gen() != 0 || w.v.Pending() != 0 || w.v.Full() {
					t.Error(w.v)
				}
			}
			if !sameFiles(w.files(), slices.SortedFunc(slices.Values(files), func(a, b api.File) int { return bytes.Compare([]byte(a.Name), []byte(b.Name)) })) {
				t.Errorf("%s", told(w.files()))
			}
		}
	})
}

// P21.2: without a head, but with any pin that is not zero, somebody tampered.
func TestNoHead(t *testing.T) {
	both(t, func(t *testing.T, ideal bool) {
		for _, pin := range []api.Pin{{Num: 1}, {Life: 1}, {Life: 1, Num: 1}, {Life: 2, Num: 7}} {
			w := newTwin(t, ideal, wide())
			w.each(func(w world) {
				w.c.Birth()
				w.c.Birth()
				if e := w.c.Raise(pin); e != api.OK {
					t.Fatal(e)
				}
			})
			w.refuses("no head", api.ETAMPER)
			w.edit("head.new", nil)
			w.refuses("no head", api.ETAMPER)
			w.edit("head", nil)
			w.refuses("no bytes", api.ETAMPER)
		}
		w := newTwin(t, ideal, wide()).begun(texts("a"))
		w.load(without(w.files(), "head"))
		w.refuses("the head is gone", api.ETAMPER)
		w.load(nil)
		w.refuses("all is gone", api.ETAMPER)
		w.fuse(0)
		w.each(func(w world) { w.p.Act() })
		w.refuses("no power", api.EDOWN)
	})
}

// P21.2: a boot is one act, of the cell's, behind all that it reads.
func TestBootIsAnAct(t *testing.T) {
	both(t, func(t *testing.T, ideal bool) {
		w := newTwin(t, ideal, wide())
		for range 2 {
			w.fuse(0)
			w.refuses("power goes", api.EDOWN)
			w.refuses("power is off", api.EDOWN)
			w.crash()
			w.fuse(1)
			w.finds(nil, nil)
			w.refuses("power goes", api.EDOWN)
			w.crash()
		}
		w.begun(texts("a"))
		w.fuse(0)
		w.edit("head", []byte("no head"))
		w.refuses("tampered with, while power is on", api.ETAMPER)
		if !w.got.p.On() {
			t.Error("an act")
		}
		w.each(func(w world) { w.p.Act() })
		w.refuses("tampered with, without power", api.EDOWN)
	})
}

// P21.2: the cell's errors: its lives are spent, or its own power goes; nothing is found then.
func TestBootBySpentCell(t *testing.T) {
	both(t, func(t *testing.T, ideal bool) {
		w := apart(t, ideal, wide(), api.Bounds{Life: 2, Pin: 9})
		w.begun(texts("a"))
		w.each(func(w world) { w.q.Fuse(0) })
		w.refuses("the cell's power goes", api.EDOWN)
		w.refuses("the cell's power is off", api.EDOWN)
		w.each(func(w world) { w.q.Mend() })
		w.finds(texts("a"), nil)
		w.refuses("no life more", api.ESPENT)
		w.edit("head", nil)
		w.refuses("tampered with", api.ETAMPER)
		w = apart(t, ideal, wide(), api.Bounds{Pin: 9})
		w.refuses("no life", api.ESPENT)
	})
}

// story is a vault that rewrote, committed, and has a command behind the last bind.
func story(t *testing.T, ideal bool) *twin {
	t.Helper()
	w := newTwin(t, ideal, wide()).begun(texts("old"))
	w.rewrite(texts("a", "b"), true)
	for _, rec := range []string{"c", "", "d"} {
		w.add(rec)
	}
	w.commit()
	w.add("e")
	w.commit()
	w.add("lost")
	return w
}

// P21.2: the snapshot's entries are found, and the commands ahead of the last bind; the next life goes on in the epoch.
func TestFound(t *testing.T) {
	both(t, func(t *testing.T, ideal bool) {
		w := story(t, ideal)
		w.each(func(w world) { w.d.Sync("log.1.2") })
		for life := 2; life < 5; life++ {
			w.finds(texts("a", "b"), texts("c", "", "d", "e"))
			if w.v.Life() != life || w.v.Epoch() != 1 || w.v.Gen() != 0 || w.v.Pending() != 0 || w.v.Full() {
				t.Error(w.v.Life(), w.v.Epoch(), w.v.Gen(), w.v.Pending(), w.v.Full())
			}
		}
		w.tells("begin", w.begin(texts("x")), api.OK)
		if w.v.Life() != 4 || w.v.Epoch() != 1 || w.v.Gen() != 1 {
			t.Error(w.v.Life(), w.v.Epoch(), w.v.Gen())
		}
		w.finds(texts("x"), nil)
	})
}

// P21.2: each byte of the head counts: one that is cut, longer, or turned at any place is told.
func TestEditedHead(t *testing.T) {
	both(t, func(t *testing.T, ideal bool) {
		w := story(t, ideal)
		head := w.file("head")
		for n := range head {
			w.edit("head", head[:n])
			w.refuses("cut", api.ETAMPER)
			w.edit("head", head[n+1:])
			w.refuses("cut ahead", api.ETAMPER)
			for _, by := range []byte{1, 2, 16, 128, 255} {
				turned := bytes.Clone(head)
				turned[n] ^= by
				w.edit("head", turned)
				w.refuses("turned", api.ETAMPER)
			}
		}
		for _, more := range [][]byte{{0}, {1, 2}, head, {0, 0, 0, 0}} {
			w.edit("head", slices.Concat(head, more))
			w.refuses("longer", api.ETAMPER)
			w.edit("head", slices.Concat(more, head))
			w.refuses("longer ahead", api.ETAMPER)
		}
		w.edit("head", head)
		w.finds(texts("a", "b"), texts("c", "", "d", "e"))
	})
}

// P21.2: a head that is none is told, also where there are files of the least names that may be.
func TestNoHeadButLeastNames(t *testing.T) {
	both(t, func(t *testing.T, ideal bool) {
		w := newTwin(t, ideal, wide())
		w.forgeAll(0, 0, 0, "", texts("x"), bindOf(0, 0))
		head := w.file("head")
		for _, other := range [][]byte{nil, {0}, head[:47], append(bytes.Clone(head), 0), make([]byte, 48), filled(48)} {
			if bytes.Equal(other, head) {
				continue
			}
			w.edit("head", other)
			w.refuses("no head", api.ETAMPER)
		}
		w.edit("head", head)
		w.finds(texts("x"), nil)
	})
}

// P21.2: a head that tells of another epoch, life or gen than it was sealed for.
func TestHeadOfAnother(t *testing.T) {
	both(t, func(t *testing.T, ideal bool) {
		w := story(t, ideal)
		head := w.file("head")
		for i := range 3 {
			for _, n := range []int{0, 1, 2, 3, most, most + 1, math.MaxInt, math.MinInt, -1} {
				other := slices.Concat(head[:8*i], num(n), head[8*i+8:])
				if bytes.Equal(other, head) {
					continue
				}
				w.edit("head", other)
				w.refuses("of another", api.ETAMPER)
			}
		}
	})
}

// forge puts a file there that who has the key made, in each world by its box.
func (w *twin) forge(name string, bytes func(b *box.Box) []byte) {
	w.Helper()
	w.each(func(w2 world) { w.tells("forge "+name, w2.d.Edit(name, bytes(w2.b)), api.OK) })
}

// forgeHead puts a head of the generation 2 of life 1, epoch 1, there, sealed so.
func (w *twin) forgeHead(id api.KeyID, n int, beside, text []byte) {
	w.Helper()
	w.forge("head", func(b *box.Box) []byte {
		sealed, e := b.Seal(id, n, beside, text)
		w.tells("seal", e, api.OK)
		return slices.Concat(num(1), num(1), num(2), put(sealed))
	})
}

// P21.2: a head that is sealed otherwise: with another id, number or text, or beside something.
func TestHeadSealedOtherwise(t *testing.T) {
	both(t, func(t *testing.T, ideal bool) {
		w := story(t, ideal)
		id := idOf(api.KHead, 1, 1, 2)
		for label := api.KHead + 1; label <= api.KFrame; label++ {
			w.forgeHead(idOf(label, 1, 1, 2), 0, nil, []byte("head"))
			w.refuses("another label", api.ETAMPER)
		}
		for _, other := range []api.KeyID{idOf(api.KHead, 0, 1, 2), idOf(api.KHead, 1, 2, 2), idOf(api.KHead, 1, 1, 1), {Label: api.KHead, Epoch: 1, Life: 1, Num: 2, Side: 1}, {Label: api.KHead, Epoch: 1, Life: 1, Num: 2, Peer: 1}} {
			w.forgeHead(other, 0, nil, []byte("head"))
			w.refuses("another id", api.ETAMPER)
		}
		w.forgeHead(id, 1, nil, []byte("head"))
		w.refuses("another number", api.ETAMPER)
		w.forgeHead(id, 0, []byte("x"), []byte("head"))
		w.refuses("something beside", api.ETAMPER)
		for _, text := range []string{"", "hea", "Head", "head ", "heads", "head\x00"} {
			w.forgeHead(id, 0, nil, []byte(text))
			w.refuses(text, api.ETAMPER)
		}
		w.forgeHead(id, 0, nil, []byte("head"))
		w.finds(texts("a", "b"), texts("c", "", "d", "e"))
	})
}

// P21.2: a snapshot or a log that is not there.
func TestFilesGone(t *testing.T) {
	both(t, func(t *testing.T, ideal bool) {
		w := story(t, ideal)
		all := w.files()
		for _, gone := range [][]string{{"snap.1.2"}, {"log.1.2"}, {"snap.1.2", "log.1.2"}} {
			w.load(without(all, gone...))
			w.refuses(gone[0], api.ETAMPER)
		}
		w.each(func(w world) { w.d.Rename("log.1.2", "log.1.1") })
		w.refuses("another name", api.ETAMPER)
		w.load(all)
		w.finds(texts("a", "b"), texts("c", "", "d", "e"))
	})
}

// P21.2: each byte of the snapshot counts.
func TestEditedSnapshot(t *testing.T) {
	both(t, func(t *testing.T, ideal bool) {
		w := story(t, ideal)
		file := w.file("snap.1.2")
		for n := range file {
			w.edit("snap.1.2", file[:n])
			w.refuses("cut", api.ETAMPER)
			turned := bytes.Clone(file)
			turned[n] ^= 1 << (n % 8)
			w.edit("snap.1.2", turned)
			w.refuses("turned", api.ETAMPER)
		}
		w.edit("snap.1.2", append(bytes.Clone(file), 0))
		w.refuses("longer", api.ETAMPER)
		w.edit("snap.1.2", w.file("log.1.2"))
		w.refuses("the log", api.ETAMPER)
		w.edit("snap.1.2", file)
		w.finds(texts("a", "b"), texts("c", "", "d", "e"))
	})
}

// P21.2: a log that is cut, or turned anywhere, ends there: it must have the bind of the cell's pin still.
func TestEditedLog(t *testing.T) {
	both(t, func(t *testing.T, ideal bool) {
		w := story(t, ideal)
		file := w.file("log.1.2")
		bound := len(file) - len(put(filled(1+4+16)))
		if w.got.c.Pin() != (api.Pin{Life: 1, Num: 4}) {
			t.Fatal(w.got.c.Pin())
		}
		for n := range len(file) + 1 {
			for _, edit := range []string{"cut", "turned", "one less"} {
				edited := bytes.Clone(file)
				switch {
				case edit == "cut":
					edited = edited[:n]
				case n == len(file):
				case edit == "turned":
					edited[n] ^= 1 << (n % 8)
				default:
					edited = slices.Delete(edited, n, n+1)
				}
				w.edit("log.1.2", edited)
				if bytes.HasPrefix(edited, file[:bound]) {
					w.finds(texts("a", "b"), texts("c", "", "d", "e"))
				} else {
					w.refuses(edit, api.ETAMPER)
				}
			}
		}
		w.edit("log.1.2", slices.Concat(file, []byte("more")))
		w.finds(texts("a", "b"), texts("c", "", "d", "e"))
		w.edit("log.1.2", w.file("snap.1.2"))
		w.refuses("the snapshot", api.ETAMPER)
	})
}

// P21.2: files of another generation, under these names, and under their own.
func TestFilesOfAnotherGeneration(t *testing.T) {
	both(t, func(t *testing.T, ideal bool) {
		w := newTwin(t, ideal, wide()).begun(texts("a"))
		w.add("b")
		w.commit()
		old := w.files()
		w.rewrite(texts("a", "b"), false)
		now := w.files()
		for _, f := range old {
			name := f.Name
			if name != "head" {
				name = name[:len(name)-1] + "2"
			}
			w.load(now)
			w.edit(name, f.Data)
			w.refuses(name, api.ETAMPER)
			w.load(old)
			w.each(func(w2 world) {
				w2.d.Edit(f.Name, now[slices.IndexFunc(old, func(g api.File) bool { return g.Name == f.Name })].Data)
			})
			w.refuses(f.Name, api.ETAMPER)
		}
		w.load(old)
		w.refuses("all of before", api.ETAMPER)
		w.load(append(slices.Clone(now), without(old, "head")...))
		w.finds(texts("a", "b"), nil)
		w.load(append(without(now, "head"), old...))
		w.refuses("the head of before", api.ETAMPER)
	})
}

// forgeAll puts a generation there that who has the key made, of records as they are told.
func (w *twin) forgeAll(epoch, life, gen int, meta string, entries [][]byte, recs ...[]byte) {
	w.Helper()
	snapName, logName := names(life, gen)
	w.forge("head", func(b *box.Box) []byte { return headOf(b, epoch, life, gen) })
	w.forge(snapName, func(b *box.Box) []byte {
		file, e := snap.Write(b, idOf(api.KSnap, epoch, life, gen), []byte(meta), entries)
		w.tells("write", e, api.OK)
		return file
	})
	w.forge(logName, func(b *box.Box) []byte {
		s, out := newSealer(b, idOf(api.KLog, epoch, life, gen)), []byte(nil)
		for _, rec := range recs {
			out = append(out, s.seal(rec)...)
		}
		return out
	})
}

// P21.2: what counts as a record: a byte 1 and a command, or a byte 2 and two numbers; one of another form is told, wherever it stands.
func TestRecordsOfOtherForms(t *testing.T) {
	bind := bindOf(1, 1)
	others := [][]byte{nil, {0}, {2}, {3}, {255}, {0, 1}, bind[:16], bind[:9], append(bytes.Clone(bind), 0), append([]byte{3}, bind[1:]...), append([]byte{0}, bind[1:]...), slices.Concat([]byte{2}, num(math.MinInt), num(1)), slices.Concat([]byte{2}, num(1), num(-1)), slices.Concat(bind, bind), slices.Concat(bind, num(1))}
	both(t, func(t *testing.T, ideal bool) {
		good := [][]byte{bind, commandOf("a"), commandOf(""), commandOf(string(bind)), bindOf(1, 2), commandOf("lost")}
		for i, other := range others {
			for at := range len(good) + 1 {
				w := newTwin(t, ideal, wide())
				w.forgeAll(0, 1, 1, "", texts("x"), slices.Insert(slices.Clone(good), at, other)...)
				w.refuses("another form", api.ETAMPER)
				if at == 0 {
					w.forgeAll(1, 1, i+1, "", texts("x"), other)
					w.refuses("another form alone", api.ETAMPER)
				}
			}
		}
		w := newTwin(t, ideal, wide())
		w.forgeAll(0, 1, 1, "", texts("x"), good...)
		w.finds(texts("x"), [][]byte{[]byte("a"), {}, bind})
	})
}

// P21.2: a log without a bind; one whose last bind stands anywhere.
func TestBinds(t *testing.T) {
	both(t, func(t *testing.T, ideal bool) {
		w := newTwin(t, ideal, wide())
		for gen, recs := range [][][]byte{nil, {commandOf("a")}, {commandOf("a"), commandOf("b"), commandOf(string(bindOf(1, 1)))}} {
			w.forgeAll(0, 1, gen, "", nil, recs...)
			w.refuses("no bind", api.ETAMPER)
		}
		for gen, c := range []struct {
			recs  [][]byte
			found [][]byte
		}{
			{[][]byte{bindOf(0, 0)}, nil},
			{[][]byte{bindOf(1, 1), commandOf("a")}, nil},
			{[][]byte{commandOf("a"), bindOf(1, 1), commandOf("b"), commandOf("c")}, texts("a")},
			{[][]byte{commandOf("a"), bindOf(1, 1), commandOf("b"), bindOf(1, 2)}, texts("a", "b")},
			{[][]byte{bindOf(1, 2), commandOf("a"), bindOf(1, 1), bindOf(1, 1), commandOf("b")}, texts("a")},
			{[][]byte{bindOf(math.MaxInt, math.MaxInt), commandOf("a"), bindOf(math.MaxInt, math.MaxInt), commandOf("b")}, texts("a")},
		} {
			w.forgeAll(7, 1, gen+10, "", texts("x"), c.recs...)
			w.finds(texts("x"), c.found)
			if w.v.Epoch() != 7 {
				t.Error(w.v.Epoch())
			}
		}
	})
}

// P21.2: the last bind's pin must not be Less than the cell's; it may be as great, or greater.
func TestLastBind(t *testing.T) {
	both(t, func(t *testing.T, ideal bool) {
		gen := 0
		for _, pin := range []api.Pin{{}, {Num: 1}, {Life: 1}, {Life: 1, Num: 5}, {Life: 2, Num: 1}} {
			for _, last := range []api.Pin{{}, {Num: 1}, {Num: 9}, {Life: 1}, {Life: 1, Num: 4}, {Life: 1, Num: 5}, {Life: 1, Num: 6}, {Life: 2}, {Life: 2, Num: 1}, {Life: 2, Num: 2}, {Life: 3}, {Life: math.MaxInt, Num: math.MaxInt}} {
				w := newTwin(t, ideal, wide())
				w.each(func(w world) {
					w.c.Birth()
					w.c.Birth()
					w.c.Raise(pin)
				})
				gen++
				w.forgeAll(0, 1, gen, "", texts("x"), bindOf(2, 9), commandOf("a"), bindOf(last.Life, last.Num), commandOf("b"))
				if w.got.c.Pin() != pin {
					t.Fatal(pin)
				}
				if last.Life < pin.Life || last.Life == pin.Life && last.Num < pin.Num {
					w.refuses("a bind that is less", api.ETAMPER)
				} else {
					w.finds(texts("x"), texts("a"))
				}
			}
		}
	})
}

// P21.2: a snapshot that who has the key made otherwise: with another id; meta is not asked for.
func TestSnapshotSealedOtherwise(t *testing.T) {
	both(t, func(t *testing.T, ideal bool) {
		w := newTwin(t, ideal, wide())
		w.forgeAll(1, 1, 2, "meta", texts("x"), bindOf(1, 1))
		w.finds(texts("x"), nil)
		for _, id := range []api.KeyID{idOf(api.KLog, 1, 1, 3), idOf(api.KHead, 1, 1, 3), idOf(api.KSnap, 0, 1, 3), idOf(api.KSnap, 2, 1, 3), idOf(api.KSnap, 1, 2, 3), idOf(api.KSnap, 1, 1, 2), {Label: api.KSnap, Epoch: 1, Life: 1, Num: 3, Side: 1}, {Label: api.KSnap, Epoch: 1, Life: 1, Num: 3, Peer: 1}} {
			w = newTwin(t, ideal, wide())
			w.forgeAll(1, 1, 3, "", texts("x"), bindOf(1, 1))
			w.forge("snap.1.3", func(b *box.Box) []byte {
				file, _ := snap.Write(b, id, nil, texts("x"))
				return file
			})
			w.refuses("another id", api.ETAMPER)
		}
	})
}

// P21.2: a log that who has the key made with another id.
func TestLogSealedOtherwise(t *testing.T) {
	both(t, func(t *testing.T, ideal bool) {
		for _, id := range []api.KeyID{idOf(api.KSnap, 1, 1, 3), idOf(api.KHead, 1, 1, 3), idOf(api.KLog, 0, 1, 3), idOf(api.KLog, 2, 1, 3), idOf(api.KLog, 1, 2, 3), idOf(api.KLog, 1, 1, 2), idOf(api.KLog, 1, 1, 3)} {
			w := newTwin(t, ideal, wide())
			w.forgeAll(1, 1, 3, "", texts("x"), bindOf(1, 1))
			w.forge("log.1.3", func(b *box.Box) []byte { return newSealer(b, id).seal(bindOf(1, 1)) })
			if id == idOf(api.KLog, 1, 1, 3) {
				w.finds(texts("x"), nil)
			} else {
				w.refuses("another id", api.ETAMPER)
			}
		}
	})
}

// P21.2: another secret, or another box, opens nothing.
func TestBootByAnotherBox(t *testing.T) {
	both(t, func(t *testing.T, ideal bool) {
		w := newTwin(t, ideal, wide()).begun(texts("a"))
		for _, b := range []*box.Box{box.New([]byte("Secret"), false), box.New([]byte("secret"), true), box.New(nil, false)} {
			if v, f, e := vault.Boot(w.got.d, w.got.c, b, wide()); e != api.ETAMPER || v != nil || !reflect.DeepEqual(f, vault.Found{}) {
				t.Errorf("%d, %v, %v", e, v, f)
			}
		}
	})
}

// Rule 4: what is found is new memory: what becomes of it is not seen, each text of it is its own.
func TestMemoryOfFound(t *testing.T) {
	both(t, func(t *testing.T, ideal bool) {
		w := story(t, ideal)
		all := w.files()
		f, _ := w.boot()
		for _, l := range [][][]byte{f.Entries, f.Recs} {
			for _, text := range l {
				_ = append(text, "behind a text"...)
				for i := range text {
					text[i]++
				}
			}
			_ = append(l, nil, nil)
			clear(l[:1])
		}
		if !same(f.Entries[1:], texts("c")) || !same(f.Recs[1:], texts("", "e", "f")) {
			t.Errorf("%q", f)
		}
		if !sameFiles(w.files(), all) {
			t.Error("files have changed")
		}
		w.finds(texts("a", "b"), texts("c", "", "d", "e"))
	})
}
