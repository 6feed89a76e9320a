package vault_test

import (
	"bytes"
	"math"
	"testing"

	"intaglio/api"
	"intaglio/chain"
	"intaglio/snap"
	"intaglio/vault"
)

// P21.1: the names of a generation's files.
func TestNames(t *testing.T) {
	for _, c := range []struct {
		life, gen     int
		snapshot, log string
	}{
		{2, 1, "snap.2.1", "log.2.1"}, {0, 0, "snap.0.0", "log.0.0"}, {1, 10, "snap.1.10", "log.1.10"}, {10, 1, "snap.10.1", "log.10.1"},
		{most, most, "snap.1099511627776.1099511627776", "log.1099511627776.1099511627776"},
		{-1, -20, "snap.-1.-20", "log.-1.-20"},
		{math.MaxInt, math.MinInt, "snap.9223372036854775807.-9223372036854775808", "log.9223372036854775807.-9223372036854775808"},
	} {
		if snapshot, log := vault.Names(c.life, c.gen); snapshot != c.snapshot || log != c.log {
			t.Errorf("%d, %d: %q, %q", c.life, c.gen, snapshot, log)
		}
	}
}

// P21.1: what an ideal box's files are made of, byte for byte.
func TestFilesByHand(t *testing.T) {
	w := newTwin(t, true, wide()).begun(nil)
	token := func(number byte, size int) []byte {
		b := make([]byte, size)
		b[7] = number
		return b
	}
	is := func(name string, want ...[]byte) {
		t.Helper()
		if got := w.file(name); !bytes.Equal(got, bytes.Join(want, nil)) {
			t.Errorf("%s: %x, want %x", name, got, bytes.Join(want, nil))
		}
	}
	w.has("head", "log.1.1", "snap.1.1")
	is("snap.1.1", []byte{0, 0, 0, 60}, token(0, 60))
	is("log.1.1", []byte{0, 0, 0, 33}, token(1, 33))
	is("head", num(0), num(1), num(1), []byte{0, 0, 0, 20}, token(2, 20))
	w.add("abc")
	is("log.1.1", []byte{0, 0, 0, 33}, token(1, 33), []byte{0, 0, 0, 20}, token(3, 20))
	w.commit()
	is("log.1.1", []byte{0, 0, 0, 33}, token(1, 33), []byte{0, 0, 0, 20}, token(3, 20), []byte{0, 0, 0, 33}, token(4, 33))
	w.rewrite(texts("entry"), true)
	w.has("head", "log.1.2", "snap.1.2")
	is("head", num(1), num(1), num(2), []byte{0, 0, 0, 20}, token(8, 20))
	is("snap.1.2", []byte{0, 0, 0, 60}, token(5, 60), []byte{0, 0, 0, 25}, token(6, 25))
	is("log.1.2", []byte{0, 0, 0, 33}, token(7, 33))
}

// P21.1: each file opens by the ids of its generation, and has what the chapter says.
func TestFilesOpen(t *testing.T) {
	both(t, func(t *testing.T, ideal bool) {
		w := newTwin(t, ideal, wide()).begun(nil)
		w.rewrite(nil, true)
		w.crash()
		w.begun(nil)
		w.rewrite(nil, false)
		w.rewrite(nil, true)
		w.rewrite(texts("one", "two"), false)
		w.add("first")
		w.add("")
		w.commit()
		w.add("third")
		w.has("head", "log.2.4", "snap.2.4")
		b := w.got.b
		meta, entries, e := snap.Read(b, idOf(api.KSnap, 2, 2, 4), w.file("snap.2.4"))
		if e != api.OK || len(meta) != 0 || !same(entries, texts("one", "two")) {
			t.Errorf("%d, %q, %q", e, meta, entries)
		}
		log := w.file("log.2.4")
		recs, used := chain.Replay(b, idOf(api.KLog, 2, 2, 4), log)
		want := [][]byte{bindOf(2, 4), commandOf("first"), commandOf(""), bindOf(2, 5), commandOf("third")}
		if !same(recs, want) || used != len(log) {
			t.Errorf("%q, want %q", recs, want)
		}
		head := w.file("head")
		if !bytes.Equal(head[:24], append(append(num(2), num(2)...), num(4)...)) || len(head) != 48 {
			t.Errorf("%x", head)
		}
		if text, e := b.Open(idOf(api.KHead, 2, 2, 4), 0, nil, head[28:]); e != api.OK || string(text) != "head" {
			t.Errorf("%d, %q", e, text)
		}
		for _, f := range w.files() {
			if want := len(f.Data); f.Name != "log.2.4" && f.Kept != want || f.Name == "log.2.4" && f.Kept != want-len(put(filled(22))) {
				t.Errorf("%s: %d of %d kept", f.Name, f.Kept, want)
			}
		}
	})
}
