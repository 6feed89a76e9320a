package vault_test

import (
	"bytes"
	"slices"
	"testing"

	"intaglio/api"
	"intaglio/box"
	"intaglio/cell"
	"intaglio/disk"
	"intaglio/vault"
)

// wide is bounds that no test comes to.
func wide() api.Bounds {
	return api.Bounds{Nonce: 1000, Seq: 1000, Pin: 1000, Gen: 1000, Life: 1000, Epoch: 1000, Conn: 1000}
}

// twin is a vault, and a plain one in a world like its own: whatever befalls them, they must tell the same, and leave the same.
type twin struct {
	*testing.T
	got, want world
	bounds    api.Bounds
	v         *vault.Vault // nil behind a Boot with an error
	m         *plain
}

// newTwin is a world of nothing, for a vault of bounds.
func newTwin(t *testing.T, ideal bool, bounds api.Bounds) *twin {
	return &twin{T: t, got: newWorld(ideal, false, wide()), want: newWorld(ideal, false, wide()), bounds: bounds}
}

// apart is a world whose cell has its own power and bounds.
func apart(t *testing.T, ideal bool, bounds, cells api.Bounds) *twin {
	return &twin{T: t, got: newWorld(ideal, true, cells), want: newWorld(ideal, true, cells), bounds: bounds}
}

// sameFiles tells whether two disks have the same files.
func sameFiles(a, b []api.File) bool {
	return slices.EqualFunc(a, b, func(a, b api.File) bool {
		return a.Name == b.Name && a.Kept == b.Kept && bytes.Equal(a.Data, b.Data)
	})
}

// each does something in both worlds.
func (w *twin) each(do func(w world)) {
	do(w.got)
	do(w.want)
}

// same asks that all is the same behind a call that told e.
func (w *twin) same(what string, got, want api.Errno) api.Errno {
	w.Helper()
	if got != want {
		w.Fatalf("%s: %d, want %d", what, got, want)
	}
	if got, want := w.got.d.Image(), w.want.d.Image(); !sameFiles(got, want) {
		w.Fatalf("%s: files %s, want %s", what, told(got), told(want))
	}
	g, m := w.got, w.want
	if g.c.Pin() != m.c.Pin() || g.c.Life() != m.c.Life() || g.p.On() != m.p.On() || g.q.On() != m.q.On() {
		w.Fatalf("%s: pin %v, life %d, power %v, %v, want %v, %d, %v, %v", what, g.c.Pin(), g.c.Life(), g.p.On(), g.q.On(), m.c.Pin(), m.c.Life(), m.p.On(), m.q.On())
	}
	if g.b.Sealed() != m.b.Sealed() || g.b.Repeats() != m.b.Repeats() {
		w.Fatalf("%s: %d sealed, %d repeats, want %d, %d", what, g.b.Sealed(), g.b.Repeats(), m.b.Sealed(), m.b.Repeats())
	}
	if w.v != nil {
		v, m := w.v, w.m
		if v.Epoch() != m.epoch || v.Life() != m.life || v.Gen() != m.gen || v.Pending() != m.pending || v.Full() != m.full() {
			w.Fatalf("%s: epoch %d, life %d, gen %d, pending %d, full %v, want %d, %d, %d, %d, %v", what, v.Epoch(), v.Life(), v.Gen(), v.Pending(), v.Full(), m.epoch, m.life, m.gen, m.pending, m.full())
		}
	}
	return got
}

func (w *twin) boot() (vault.Found, api.Errno) {
	w.Helper()
	var got, want vault.Found
	var e, e2 api.Errno
	w.v, got, e = vault.Boot(w.got.d, w.got.c, w.got.b, w.bounds)
	w.m, want, e2 = w.want.boot(w.bounds)
	if (w.v == nil) != (e != api.OK) {
		w.Fatalf("boot: %d, vault %v", e, w.v)
	}
	if !same(got.Entries, want.Entries) || !same(got.Recs, want.Recs) {
		w.Fatalf("boot: %q, want %q", got, want)
	}
	return got, w.same("boot", e, e2)
}

func (w *twin) begin(entries [][]byte) api.Errno {
	w.Helper()
	return w.same("begin", w.v.Begin(entries), w.m.begin(entries))
}

func (w *twin) rewrite(entries [][]byte, turn bool) api.Errno {
	w.Helper()
	return w.same("rewrite", w.v.Rewrite(entries, turn), w.m.rewrite(entries, turn))
}

func (w *twin) add(rec string) api.Errno {
	w.Helper()
	return w.same("add", w.v.Add([]byte(rec)), w.m.add([]byte(rec)))
}

func (w *twin) commit() api.Errno {
	w.Helper()
	return w.same("commit", w.v.Commit(), w.m.commit())
}

// tells asks that a call told this.
func (w *twin) tells(what string, got, want api.Errno) {
	w.Helper()
	if got != want {
		w.Fatalf("%s: %d, want %d", what, got, want)
	}
}

// finds boots, and asks what is found.
func (w *twin) finds(entries, recs [][]byte) {
	w.Helper()
	f, e := w.boot()
	if e != api.OK || !same(f.Entries, entries) || !same(f.Recs, recs) {
		w.Fatalf("boot: %d, %q, want %q, %q", e, f, entries, recs)
	}
}

// refuses boots, and asks for an error.
func (w *twin) refuses(what string, want api.Errno) {
	w.Helper()
	life, pin := w.got.c.Life(), w.got.c.Pin()
	if f, e := w.boot(); e != want || len(f.Entries)+len(f.Recs) != 0 {
		w.Fatalf("%s: %d, %q, want %d", what, e, f, want)
	}
	if w.got.c.Life() != life || w.got.c.Pin() != pin {
		w.Fatalf("%s: life %d, pin %v, ahead %d, %v", what, w.got.c.Life(), w.got.c.Pin(), life, pin)
	}
}

// begun boots and begins.
func (w *twin) begun(entries [][]byte) *twin {
	w.Helper()
	if _, e := w.boot(); e != api.OK {
		w.Fatalf("boot: %d", e)
	}
	w.tells("begin", w.begin(entries), api.OK)
	return w
}

// fuse lets so many acts go on.
func (w *twin) fuse(n int) { w.each(func(w world) { w.p.Fuse(n) }) }

// crash takes the power away, and what is not kept; it comes again.
func (w *twin) crash(cuts ...int) { w.each(func(w world) { w.d.Crash(cuts) }) }

// load puts files in the place of all.
func (w *twin) load(l []api.File) {
	w.Helper()
	w.each(func(w2 world) { w.tells("load", w2.d.Load(l), api.OK) })
}

// edit puts bytes into a file.
func (w *twin) edit(name string, b []byte) {
	w.Helper()
	w.each(func(w2 world) { w.tells("edit", w2.d.Edit(name, b), api.OK) })
}

// files is all files.
func (w *twin) files() []api.File { return w.got.d.Image() }

// file is one of the files.
func (w *twin) file(name string) []byte {
	w.Helper()
	b, e := w.got.d.Read(name)
	w.tells("read "+name, e, api.OK)
	return b
}

// without is files but those of a name.
func without(l []api.File, names ...string) []api.File {
	return slices.DeleteFunc(slices.Clone(l), func(f api.File) bool { return slices.Contains(names, f.Name) })
}

// has asks for the names of all files.
func (w *twin) has(names ...string) {
	w.Helper()
	if got := w.got.d.Names(); !slices.Equal(got, names) {
		w.Fatalf("files %q, want %q", got, names)
	}
}

// both does something in worlds of each kind of box.
func both(t *testing.T, do func(t *testing.T, ideal bool)) {
	t.Helper()
	t.Run("real", func(t *testing.T) { do(t, false) })
	t.Run("ideal", func(t *testing.T) { do(t, true) })
}

// noVaults are vaults that Boot did not make.
func noVaults() map[string]*vault.Vault {
	return map[string]*vault.Vault{"nil": nil, "new": new(vault.Vault), "zero": {}}
}

// unmade are a disk, a cell and a box of which some are ones that no call made, but not none of them.
func unmade(tell func(d *disk.Disk, c *cell.Cell, b *box.Box)) {
	w := newWorld(true, false, wide())
	for i, d := range []*disk.Disk{w.d, nil, new(disk.Disk)} {
		for j, c := range []*cell.Cell{w.c, nil, new(cell.Cell)} {
			for k, b := range []*box.Box{w.b, nil, new(box.Box)} {
				if i+j+k > 0 {
					tell(d, c, b)
				}
			}
		}
	}
}
