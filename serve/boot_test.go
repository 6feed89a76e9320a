package serve_test

import (
	"fmt"
	"math"
	"slices"
	"strings"
	"testing"

	"intaglio/api"
	"intaglio/box"
	"intaglio/cell"
	"intaglio/disk"
	"intaglio/serve"
	"intaglio/sess"
	"intaglio/value"
	"intaglio/vault"
)

// lay makes a generation of entries and commands, whatever these are.
func (w *twin) lay(entries, recs [][]byte) {
	w.Helper()
	w.each(func(x world) {
		v, _, e := vault.Boot(x.d, x.c, x.b, wide())
		w.tells("a vault", e, api.OK)
		w.tells("begin", v.Begin(entries), api.OK)
		for _, rec := range recs {
			w.tells("add", v.Add(rec), api.OK)
		}
		w.tells("commit", v.Commit(), api.OK)
	})
}

// entry is a string's entry, as bytes.
func entry(key, text string, at int) []byte {
	b, _ := value.Encode(api.Entry{Key: key, Val: api.Val{Kind: api.VString, Text: text}, At: at})
	return b
}

// group is a group of commands, of words with blanks between, as bytes.
func group(now int, commands ...string) []byte {
	g := sess.Group{Now: now}
	for _, c := range commands {
		g.Commands = append(g.Commands, strings.Split(c, " "))
	}
	return sess.Encode(g)
}

// has asks for the keys that are there.
func (w *twin) has(what string, keys ...string) {
	w.Helper()
	var l []string
	for _, e := range w.s.State() {
		l = append(l, e.Key)
	}
	if !slices.Equal(l, keys) {
		w.Fatalf("%s: %q, want %q", what, l, keys)
	}
}

// P25.1: of no disk, cell or box.
func TestBootOfNone(t *testing.T) {
	w := newWorld(true, wide())
	for i, d := range []*disk.Disk{w.d, nil, new(disk.Disk)} {
		for j, c := range []*cell.Cell{w.c, nil, new(cell.Cell)} {
			for k, b := range []*box.Box{w.b, nil, new(box.Box)} {
				s, e := serve.Boot(d, c, b, wide(), 1000, 5)
				if want := i+j+k > 0; (e == api.ENIL) != want || (s == nil) != want {
					t.Errorf("%d %d %d: %d, %v", i, j, k, e, s)
				}
			}
		}
	}
}

// P25.1: the entries, and behind them the groups, in order, each by its time.
func TestBootFinds(t *testing.T) {
	both(t, func(t *testing.T, ideal bool) {
		w := newTwin(t, ideal, wide())
		w.lay([][]byte{entry("a", "1", 0), entry("b", "1", 30), entry("c", "1", 50)}, [][]byte{group(10, "INCR a", "SET d 1"), group(30, "INCR a", "INCR b"), group(40, "RENAME d e", "NOPE")})
		w.tells("boot", w.boot(), api.OK)
		w.has("boot", "a", "b", "c", "e")
		if l := w.s.State(); l[0].Val.Text != "3" || l[1].Val.Text != "1" || l[1].At != 0 || w.s.Now() != 40 {
			t.Errorf("%v at %d", l, w.s.Now())
		}
		if len(w.s.Ran()) != 0 {
			t.Error("groups of the life ahead are told")
		}
		w.crash()
		w.tells("boot", w.boot(), api.OK)
		w.has("boot", "a", "b", "c", "e")
		if w.s.Now() != 5 {
			t.Errorf("%d", w.s.Now())
		}
	})
}

// P25.1: files that are sound, but whose entries, or commands, are none.
func TestBootTampered(t *testing.T) {
	a, b, g := entry("a", "1", 0), entry("b", "1", 7), group(1, "SET a 1")
	twentyTwo := sess.Encode(sess.Group{Commands: slices.Repeat([][]string{{"PING"}}, 22)})
	for i, x := range []struct {
		entries, recs [][]byte
		want          api.Errno
	}{
		{nil, nil, api.OK}, {[][]byte{a, b}, [][]byte{g, g}, api.OK}, {[][]byte{a}, nil, api.OK}, {nil, [][]byte{g}, api.OK},
		{[][]byte{b, a}, nil, api.ETAMPER}, {[][]byte{a, a}, nil, api.ETAMPER}, {[][]byte{b, a}, [][]byte{g}, api.ETAMPER},
		{[][]byte{a, []byte("x")}, nil, api.ETAMPER}, {[][]byte{nil, a}, nil, api.ETAMPER}, {[][]byte{nil}, [][]byte{g}, api.ETAMPER}, {[][]byte{append(slices.Clone(a), 0)}, nil, api.ETAMPER}, {[][]byte{a[:len(a)-1], b}, nil, api.ETAMPER},
		{nil, [][]byte{nil}, api.ETAMPER}, {nil, [][]byte{g, []byte("x")}, api.ETAMPER}, {nil, [][]byte{{}, g}, api.ETAMPER}, {[][]byte{a}, [][]byte{append(slices.Clone(g), 0), g}, api.ETAMPER}, {nil, [][]byte{g[:len(g)-1]}, api.ETAMPER},
		{nil, [][]byte{group(1)}, api.ETAMPER}, {nil, [][]byte{twentyTwo}, api.ETAMPER}, {nil, [][]byte{group(1<<40+1, "SET a 1")}, api.ETAMPER}, {nil, [][]byte{group(1<<40, "SET a 1")}, api.OK},
		{[][]byte{nil}, [][]byte{nil}, api.ETAMPER},
	} {
		w := newTwin(t, i%2 == 0, wide())
		w.lay(x.entries, x.recs)
		w.tells(fmt.Sprint("boot ", i), w.boot(), x.want)
		// What was not taken is there still; only the life is another one.
		if life := w.got.c.Life(); life != 2 {
			t.Errorf("%d: life %d", i, life)
		}
		w.tells(fmt.Sprint("boot once more ", i), w.boot(), x.want)
	}
}

// P25.1: the time is now, or the last group's, if that is later; what goes by then is gone.
func TestBootTime(t *testing.T) {
	for _, x := range []struct {
		now    int
		groups []int
		want   int
	}{
		{0, nil, 0}, {-1, nil, 0}, {math.MinInt, nil, 0}, {7, nil, 7}, {1<<40 - 1, nil, 1<<40 - 1}, {1 << 40, nil, 1 << 40}, {1<<40 + 1, nil, 1 << 40}, {math.MaxInt, nil, 1 << 40},
		{7, []int{6}, 7}, {7, []int{7}, 7}, {7, []int{8}, 8}, {-5, []int{0}, 0}, {-5, []int{3}, 3}, {7, []int{50, 8}, 8}, {7, []int{50, 6}, 7}, {7, []int{6, 50}, 50}, {7, []int{1 << 40}, 1 << 40}, {math.MaxInt, []int{3}, 1 << 40},
	} {
		w := newTwin(t, true, wide())
		var recs [][]byte
		for i, now := range x.groups {
			recs = append(recs, group(now, fmt.Sprint("SET k", i, " 1")))
		}
		var entries [][]byte
		for _, at := range []int{1, 3, 6, 7, 8, 9, 49, 50, 51, 1<<40 - 1, 1 << 40} {
			entries = append(entries, entry(fmt.Sprintf("at%020d", at), "1", at))
		}
		w.lay(entries, recs)
		w.now = x.now
		w.tells("boot", w.boot(), api.OK)
		if w.s.Now() != x.want {
			t.Errorf("%v: %d", x, w.s.Now())
		}
		for _, e := range w.s.State() {
			if e.At != 0 && e.At <= x.want {
				t.Errorf("%v: %v is there", x, e)
			}
		}
	}
}

// P25.1: most is from 0 to 40000.
func TestBootMost(t *testing.T) {
	for _, x := range []struct{ most, want int }{{-1, 0}, {math.MinInt, 0}, {0, 0}, {48, 0}, {53, 1}, {52, 1}, {1000, 1000}, {39999, 39999}, {40000, 40000}, {40001, 40000}, {math.MaxInt, 40000}} {
		w := newTwin(t, true, wide())
		w.most = x.most
		w.tells("boot", w.boot(), api.OK)
		c := w.call(0)
		for i := range 100 {
			c.says(fmt.Sprintf("SET k%02d %s", i, strings.Repeat("x", 450)))
		}
		// Each further key of one byte, with a text of none, has 32 + 1 + 16 bytes.
		for i := range 10 {
			c.says(fmt.Sprintf("SET %d ", i))
		}
		used := 0
		for _, e := range w.s.State() {
			used += 32 + len(e.Key) + value.Size(e.Val)
		}
		if n := min(max(x.most, 0), 40000); used > n || n-used >= 501 {
			t.Errorf("most %d: %d bytes are used", x.most, used)
		}
	}
	// What was there stays, also if it is more.
	w := newTwin(t, true, wide())
	w.lay([][]byte{entry("a", "1", 0), entry("b", "12", 0)}, [][]byte{group(1, "APPEND a 2"), group(2, "SET b x")})
	w.most = -1
	w.tells("boot", w.boot(), api.OK)
	w.has("boot", "a", "b")
	if l := w.s.State(); l[0].Val.Text != "1" || l[1].Val.Text != "x" {
		t.Errorf("%v", l)
	}
}

// P25.1: the vault's errors: of bounds, and of the power at each act.
func TestBootErrors(t *testing.T) {
	for name, change := range map[string]func(b *api.Bounds){
		"gen": func(b *api.Bounds) { b.Gen = 0 }, "pin": func(b *api.Bounds) { b.Pin = -1 }, "nonce": func(b *api.Bounds) { b.Nonce = 0 }, "epoch": func(b *api.Bounds) { b.Epoch = -1 },
	} {
		bounds := wide()
		change(&bounds)
		w := newTwin(t, true, bounds)
		want := api.ESPENT
		if name == "epoch" { // the epoch 0 is none too many
			want = api.OK
		}
		w.tells(name, w.boot(), want)
		w.bounds = wide()
		w.crash()
		w.tells("with other bounds", w.boot(), api.OK)
	}
	cells := wide()
	cells.Life = 1
	w := newApart(t, true, wide(), cells)
	w.tells("first life", w.boot(), api.OK)
	w.tells("second life", w.boot(), api.ESPENT)
	for n := range 40 {
		w := newTwin(t, n%2 == 0, wide())
		w.lay([][]byte{entry("a", "1", 0)}, [][]byte{group(1, "INCR a")})
		w.fuse(n)
		e := w.boot()
		if e == api.OK {
			if n < 12 {
				t.Errorf("only %d acts", n)
			}
			w.has("boot", "a")
			return
		}
		w.tells("boot", e, api.EDOWN)
		w.tells("boot without power", w.boot(), api.EDOWN)
		w.crash(1, 2, 3, 4)
		w.tells("boot", w.boot(), api.OK)
		if l := w.s.State(); len(l) != 1 || l[0].Val.Text != "2" {
			t.Errorf("%d acts: %v", n, l)
		}
	}
	t.Error("no boot goes well")
}

// P25.1: files that anybody edited, and none.
func TestBootEdited(t *testing.T) {
	both(t, func(t *testing.T, ideal bool) {
		w := booted(t, ideal, wide())
		w.synced(w.call(0).says("SET k 1"))
		files := w.got.d.Image()
		for i, f := range files {
			w.each(func(x world) { x.d.Load(append(slices.Clone(files[:i]), files[i+1:]...)) })
			w.tells("without "+f.Name, w.boot(), api.ETAMPER)
			w.each(func(x world) {
				x.d.Load(files)
				x.d.Edit(f.Name, append(slices.Clone(f.Data[:len(f.Data)-1]), f.Data[len(f.Data)-1]^1))
			})
			w.tells("turned "+f.Name, w.boot(), api.ETAMPER)
		}
		w.each(func(x world) { x.d.Load(files) })
		w.tells("boot", w.boot(), api.OK)
		w.has("boot", "k")
	})
}
