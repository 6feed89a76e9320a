package play_test

import (
	"bytes"
	"fmt"
	"math"
	"testing"

	"intaglio/api"
)

// put puts what was remembered n-th in the place of all files.
func put(n int) api.Step { return api.Step{Kind: api.SPut, N: n} }

// putOne puts the m-th file of it there alone.
func putOne(n, m int) api.Step { return api.Step{Kind: api.SPut, N: n, M: m, K: 1} }

// edit puts a text in the place of the m-th file.
func edit(m int, text string) api.Step {
	return api.Step{Kind: api.SEdit, M: m, Text: []byte(text)}
}

// cut leaves the first bytes of the m-th file, by an odd number.
func cut(m, n int) api.Step { return api.Step{Kind: api.SEdit, M: m, N: n} }

// filed is a world in which so many files were remembered, each time by one command more: head, log.1.1 and snap.1.1.
func filed(t *testing.T, ideal bool, n int) (*twin, [][]api.File) {
	t.Helper()
	w := booted(t, wide(), ideal)
	w.calls(0)
	var past [][]api.File
	for i := range n {
		w.says(0, fmt.Sprint("SET k ", i))
		if i%2 == 1 {
			w.synced(0)
		}
		w.does(api.OK, keep())
		past = append(past, w.w.Files())
	}
	return w, past
}

// has asks for files.
func (w *twin) has(what string, want []api.File) {
	w.Helper()
	if got := w.w.Files(); !sameFiles(got, want) {
		w.Fatalf("%s: %v, want %v", what, got, want)
	}
}

// modulo is what is left of a number without a sign.
func modulo(n, by int) int { return int(uint64(n) % uint64(by)) }

// places is numbers of all kinds.
func places() []int {
	return []int{0, 1, 2, 3, 4, 5, 6, 7, 100, 101, -1, -2, -3, -4, math.MaxInt, math.MinInt, math.MinInt + 1}
}

// P26.1: nothing is there to be put or edited.
func TestNoFiles(t *testing.T) {
	w := newTwin(t, wide(), 1000, true)
	w.does(api.ENONE, put(0), put(-1), putOne(0, 0), edit(0, "a"), cut(0, 1), cut(-1, -1))
	w.does(api.OK, keep())
	w.does(api.ENONE, putOne(0, 0), putOne(3, -1), edit(0, "a"))
	w.does(api.OK, put(0), boot(), put(5))
	w.has("no files", nil)
	w.does(api.OK, keep())
	w.does(api.ENONE, edit(0, "a"))
	w.does(api.OK, crash())
	w.does(api.ETAMPER, boot())
}

// P26.1: what was remembered is put in the place of all files, with what of it was kept.
func TestPut(t *testing.T) {
	both(t, func(t *testing.T, ideal bool) {
		for count := 1; count <= 5; count++ {
			w, past := filed(t, ideal, count)
			for _, n := range places() {
				for _, k := range []int{0, 2, -2, math.MinInt} {
					x := put(n)
					x.K, x.M = k, 1
					w.does(api.OK, edit(1, "x"), x)
					w.has(fmt.Sprintf("put %d of %d", n, count), past[modulo(n, count)])
				}
			}
		}
		w, past := filed(t, ideal, 1)
		if f := past[0][1]; f.Kept == 0 || f.Kept == len(f.Data) {
			t.Errorf("%d of %d bytes are kept", f.Kept, len(f.Data))
		}
		w.does(api.OK, put(0), crash(), boot())
		w.holds()
	})
}

// edited is files of which one has other bytes, that are all kept.
func edited(l []api.File, name string, data []byte) []api.File {
	var out []api.File
	for _, f := range l {
		if f.Name == name {
			f = api.File{Name: name, Data: data, Kept: len(data)}
		}
		out = append(out, f)
	}
	return out
}

// P26.1: one file alone of what was remembered is put there; all of its bytes are kept, and the other files are as they were.
func TestPutOne(t *testing.T) {
	both(t, func(t *testing.T, ideal bool) {
		for count := 1; count <= 3; count++ {
			w, past := filed(t, ideal, count)
			last := past[count-1]
			for i, n := range places() {
				for j, m := range places() {
					x := putOne(n, m)
					x.K = []int{1, -1, 3, math.MaxInt, math.MinInt + 1}[(i+j)%5]
					w.does(api.OK, put(count-1), x)
					f := past[modulo(n, count)][modulo(m, 3)]
					w.has(fmt.Sprintf("put %d of %d, file %d", n, count, m), edited(last, f.Name, f.Data))
				}
			}
		}
	})
}

// P26.1: a file that was there is there again; there may be 64, and no more.
func TestPutAnew(t *testing.T) {
	w := booted(t, wide(), true)
	for range 23 { // each rewrite has a snapshot and a log of its own
		w.does(api.OK, keep(), rewrite(0))
	}
	for n := range 23 {
		files := w.m.past[n]
		w.does(api.OK, putOne(n, 1), putOne(n, 2))
		if got := len(w.w.Files()); got != 5+2*n {
			t.Fatalf("%d files", got)
		}
		for _, f := range files[1:] {
			if !bytes.Equal(data(w.w.Files(), f.Name), f.Data) {
				t.Errorf("%s is another one", f.Name)
			}
		}
	}
	// What nobody put there is not taken by a boot, and is removed.
	w.does(api.OK, crash(), boot())
	if n := w.names(); len(n) != 3 {
		t.Errorf("%q", n)
	}
	for range 40 {
		w.does(api.OK, keep(), rewrite(1))
	}
	for n := 23; n < 53; n++ {
		w.does(api.OK, putOne(n, 1), putOne(n, 2))
	}
	w.does(api.OK, putOne(53, 1))
	if got := len(w.w.Files()); got != 64 {
		t.Fatalf("%d files", got)
	}
	w.does(api.EFULL, putOne(53, 2), putOne(54, 1))
	w.does(api.OK, putOne(53, 1), putOne(30, 0), edit(63, "x"))
}

// data is a file's bytes.
func data(l []api.File, name string) []byte {
	for _, f := range l {
		if f.Name == name {
			return f.Data
		}
	}
	return nil
}

// P26.1: a file has a text, or its own first bytes; all of them are kept.
func TestEdit(t *testing.T) {
	both(t, func(t *testing.T, ideal bool) {
		w, past := filed(t, ideal, 1)
		files := past[0]
		for _, m := range places() {
			f := files[modulo(m, 3)]
			for _, text := range []string{"", "a", "head"} {
				for _, n := range []int{0, 2, -2, 100, math.MinInt} {
					x := edit(m, text)
					x.N = n
					w.does(api.OK, put(0), x)
					w.has(fmt.Sprintf("edit of %d", m), edited(files, f.Name, []byte(text)))
				}
			}
			for _, n := range []int{1, 3, 5, 55, 101, 9999, -1, -3, math.MaxInt, math.MinInt + 1} {
				x := cut(m, n)
				x.Text = []byte("not this")
				w.does(api.OK, put(0), x)
				w.has(fmt.Sprintf("cut of %d to %d", m, n), edited(files, f.Name, f.Data[:modulo(n, len(f.Data)+1)]))
			}
		}
		whole := cut(1, 0)
		for whole.N = len(files[1].Data); whole.N%2 == 0; {
			whole.N += len(files[1].Data) + 1
		}
		w.does(api.OK, put(0), whole)
		w.has("no byte less", edited(files, files[1].Name, files[1].Data))
		// Of no bytes none are left.
		w.does(api.OK, edit(2, ""), cut(2, 7), cut(2, -7))
	})
}

// P26.1: an edit of more than a file has tells the disk's error, and changes nothing.
func TestEditLong(t *testing.T) {
	w := booted(t, wide(), true)
	files := w.w.Files()
	w.does(api.EARG, edit(0, string(make([]byte, api.MaxFile+1))), edit(-1, string(make([]byte, api.MaxFile+1))))
	w.has("too long", files)
	w.does(api.OK, edit(0, string(make([]byte, api.MaxFile))))
	if f := w.w.Files()[0]; len(f.Data) != api.MaxFile || f.Kept != api.MaxFile {
		t.Errorf("%d, %d", len(f.Data), f.Kept)
	}
}

// P26.1: to remember, to put and to edit needs no power, and is no act.
func TestFilesNoPower(t *testing.T) {
	w, _ := filed(t, true, 2)
	w.does(api.OK, fuse(0), keep(), put(0), putOne(1, 1), edit(1, "x"), cut(0, 1), put(1))
	w.says(0, "GET k")
	w.does(api.OK, sync())
	w.says(0, "PING")
	w.does(api.OK, say(0, "SET k 9"))
	w.does(api.EDOWN, bring(0))
	w.does(api.OK, keep(), put(0), putOne(1, 1), edit(1, "x"), cut(0, 1), put(1))
	w.does(api.EDOWN, boot())
	w.does(api.OK, crash(), boot())
	w.holds("k=1")
}
