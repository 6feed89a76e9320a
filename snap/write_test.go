package snap_test

import (
	"bytes"
	"math"
	"math/rand"
	"slices"
	"testing"

	"intaglio/api"
	"intaglio/box"
	"intaglio/snap"
)

// write is the file that Write makes of what may be written.
func write(t *testing.T, b *box.Box, id api.KeyID, meta []byte, entries [][]byte) []byte {
	t.Helper()
	file, e := snap.Write(b, id, meta, entries)
	if e != api.OK || len(file) == 0 {
		t.Fatalf("%d bytes of meta, %d entries: %d, %d bytes", len(meta), len(entries), e, len(file))
	}
	return file
}

// noWrite asks that nothing is written, and nothing sealed.
func noWrite(t *testing.T, what string, b *box.Box, id api.KeyID, meta []byte, entries [][]byte, want api.Errno) {
	t.Helper()
	sealed, repeats := b.Sealed(), b.Repeats()
	if file, e := snap.Write(b, id, meta, entries); e != want || len(file) != 0 {
		t.Errorf("%s: %d, %d bytes, want %d", what, e, len(file), want)
	}
	if b.Sealed() != sealed || b.Repeats() != repeats {
		t.Errorf("%s: %d sealed, %d repeats, ahead %d, %d", what, b.Sealed(), b.Repeats(), sealed, repeats)
	}
}

// content is what a snapshot has.
type content struct {
	meta    []byte
	entries [][]byte
}

// contents are some, also without meta, without entries, and as great as they may be.
func contents() []content {
	rnd := rand.New(rand.NewSource(3))
	out := []content{
		{}, {[]byte{}, [][]byte{}}, {[]byte("meta"), nil}, {nil, texts("")}, {nil, texts("", "")}, {nil, texts("one")},
		{[]byte("meta"), [][]byte{filled(100), filled(100), filled(200)}},
		{[]byte{0}, [][]byte{laid(255)}}, {nil, [][]byte{laid(256)}}, {nil, [][]byte{laid(257), nil}},
		{filled(999), nil}, {filled(1000), texts("x")}, {nil, make([][]byte, 65)},
		{nil, make([][]byte, 999)}, {nil, make([][]byte, 1000)}, {filled(1000), slices.Repeat(texts("same"), 1000)},
		{nil, [][]byte{filled(59999)}}, {filled(1000), [][]byte{nil, filled(60000), nil, filled(60000)}},
	}
	for n := range 20 {
		out = append(out, content{filled(rnd.Intn(50)), someEntries(rnd, n)})
	}
	return out
}

// wrongIDs are ids that may not be.
func wrongIDs() []api.KeyID {
	out := []api.KeyID{{}, {Label: 7}, {Label: -1}, {Label: math.MaxInt}}
	for _, n := range []int{-1, most + 1, math.MinInt, math.MaxInt} {
		for i := range 6 {
			id := someID()
			*fields(&id)[i] = n
			out = append(out, id)
		}
	}
	id := someID()
	id.Side = 2
	return append(out, id)
}

// noBoxes are boxes that New did not make.
func noBoxes() map[string]*box.Box {
	return map[string]*box.Box{"nil": nil, "new": new(box.Box), "zero": {}}
}

// P13.2: a file is its texts, each sealed with its number, the root beside all but the first.
func TestWriteIsSealedTexts(t *testing.T) {
	for _, ideal := range []bool{false, true} {
		for _, id := range append(otherIDs(), someID()) {
			for _, c := range contents() {
				if !ideal && id != someID() && len(c.entries) > 100 {
					continue
				}
				b := newBox(ideal)
				got := write(t, b, id, c.meta, c.entries)
				want := sealedBy(t, newBox(ideal), id, sealingsOf(c.meta, plainChunks(c.entries)))
				if !bytes.Equal(got, bytes.Join(want, nil)) {
					t.Errorf("ideal %v, %d entries: %d bytes, want %d: not the same", ideal, len(c.entries), len(got), len(bytes.Join(want, nil)))
				}
				if b.Sealed() != len(want) || b.Repeats() != 0 {
					t.Errorf("%d entries: %d sealed, %d repeats, want %d", len(c.entries), b.Sealed(), b.Repeats(), len(want))
				}
			}
		}
	}
}

// P13.2: what an ideal box's files are made of: the first text has 44 bytes and meta, the others are the chunks.
func TestWriteByHand(t *testing.T) {
	want := append([]byte{0, 0, 0, 60}, make([]byte, 60)...)
	if got := write(t, newBox(true), someID(), nil, nil); !bytes.Equal(got, want) {
		t.Errorf("of nothing: %x, want %x", got, want)
	}
	want = append([]byte{0, 0, 0, 62}, make([]byte, 62)...)
	want = append(want, 0, 0, 0, 21, 0, 0, 0, 0, 0, 0, 0, 1)
	want = append(want, make([]byte, 13)...)
	if got := write(t, newBox(true), someID(), []byte("ab"), texts("c")); !bytes.Equal(got, want) {
		t.Errorf("of meta and an entry: %x, want %x", got, want)
	}
}

// P13.2: what a file's first text tells, and that each text opens with its own number, and what stands beside.
func TestTextsOfFiles(t *testing.T) {
	both(t, func(t *testing.T, b *box.Box) {
		entries := [][]byte{filled(100), filled(100), filled(200), filled(300)}
		parts := partsOf(write(t, b, someID(), []byte("meta"), entries))
		chunks := plainChunks(entries)
		first, root := headOf([]byte("meta"), chunks)
		if len(parts) != 4 || len(chunks) != 3 {
			t.Fatal(len(parts), len(chunks))
		}
		for n, part := range parts {
			for try := range 6 {
				text, e := b.Open(someID(), try, root, part[4:])
				if want := n == try && n > 0; (e == api.OK) != want || want && !bytes.Equal(text, chunks[n-1]) {
					t.Errorf("text %d as %d beside the root: %d, %q", n, try, e, text)
				}
				text, e = b.Open(someID(), try, nil, part[4:])
				if want := n == 0 && try == 0; (e == api.OK) != want || want && !bytes.Equal(text, first) {
					t.Errorf("text %d as %d beside nothing: %d, %q", n, try, e, text)
				}
			}
		}
	})
}

// P13.2: so many entries, so many bytes of one, and of meta, and not one more.
func TestWriteAtItsLimits(t *testing.T) {
	both(t, func(t *testing.T, b *box.Box) {
		write(t, b, someID(), filled(1000), append(make([][]byte, 999), filled(60000)))
		for what, c := range map[string]content{
			"meta":                {filled(1001), nil},
			"meta, and entries":   {filled(1001), texts("one", "two")},
			"much meta":           {filled(1 << 17), nil},
			"entries":             {nil, make([][]byte, 1001)},
			"many entries":        {nil, make([][]byte, 5000)},
			"an entry":            {nil, [][]byte{filled(60001)}},
			"an entry ahead":      {nil, [][]byte{filled(60001), nil, nil}},
			"an entry behind":     {nil, [][]byte{nil, nil, filled(60001)}},
			"an entry in between": {nil, [][]byte{nil, filled(60001), nil}},
			"one beyond a text":   {nil, [][]byte{filled(api.MaxSealed + 1)}},
			"all":                 {filled(1001), slices.Repeat([][]byte{filled(60001)}, 1001)},
		} {
			noWrite(t, what, b, someID(), c.meta, c.entries, api.ELONG)
		}
	})
}

// P13.2: an id that may not be, and no box: Seal's errors, of which no box is the first, and behind ELONG.
func TestWriteTellsSealsErrors(t *testing.T) {
	long := make([][]byte, 1001)
	both(t, func(t *testing.T, b *box.Box) {
		for _, id := range wrongIDs() {
			noWrite(t, "of nothing", b, id, nil, nil, api.EARG)
			noWrite(t, "of entries", b, id, []byte("meta"), texts("one", "two"), api.EARG)
			noWrite(t, "too long", b, id, nil, long, api.ELONG)
			noWrite(t, "too much meta", b, id, filled(1001), nil, api.ELONG)
		}
	})
	for name, b := range noBoxes() {
		for _, id := range append(wrongIDs(), someID()) {
			noWrite(t, name, b, id, nil, nil, api.ENIL)
			noWrite(t, name, b, id, []byte("meta"), texts("one", "two"), api.ENIL)
			noWrite(t, name, b, id, nil, long, api.ELONG)
		}
	}
}

// P13.2: every id that may be is taken, at the bounds too.
func TestWriteWithEveryID(t *testing.T) {
	both(t, func(t *testing.T, b *box.Box) {
		for label := 1; label <= 6; label++ {
			for at := range 16 {
				bound := func(bit int) int { return at >> bit & 1 * most }
				id := api.KeyID{Label: label, Epoch: bound(0), Life: bound(1), Num: bound(2), Side: at & 1, Peer: bound(3)}
				reads(t, b, id, write(t, b, id, []byte("meta"), texts("one", "two")), content{[]byte("meta"), texts("one", "two")})
			}
		}
		if b.Repeats() != 0 {
			t.Errorf("%d repeats", b.Repeats())
		}
	})
}

// P13.2: with an id that was written with before, all is sealed again, and counted.
func TestWriteAgain(t *testing.T) {
	both(t, func(t *testing.T, b *box.Box) {
		one, other := content{[]byte("meta"), texts("one")}, content{nil, [][]byte{filled(300), filled(300)}}
		first := write(t, b, someID(), one.meta, one.entries)
		second := write(t, b, someID(), other.meta, other.entries)
		if b.Sealed() != 5 || b.Repeats() != 2 {
			t.Errorf("%d sealed, %d repeats", b.Sealed(), b.Repeats())
		}
		if _, e := b.Seal(otherIDs()[0], 1, nil, nil); e != api.OK {
			t.Error(e)
		}
		third := write(t, b, otherIDs()[0], one.meta, one.entries)
		if b.Sealed() != 8 || b.Repeats() != 3 {
			t.Errorf("%d sealed, %d repeats", b.Sealed(), b.Repeats())
		}
		reads(t, b, someID(), first, one)
		reads(t, b, someID(), second, other)
		reads(t, b, otherIDs()[0], third, one)
		// What stands beside binds the chunks to their own first text.
		noRead(t, "the first one's head, the second one's chunks", b, someID(), bytes.Join(append(partsOf(first)[:1:1], partsOf(second)[1:]...), nil), api.ETAMPER)
		noRead(t, "the second one's head, the first one's chunk", b, someID(), bytes.Join(append(partsOf(second)[:1:1], partsOf(first)[1:]...), nil), api.ETAMPER)
		noRead(t, "a chunk of the first one in the second one", b, someID(), bytes.Join([][]byte{partsOf(second)[0], partsOf(first)[1], partsOf(second)[2]}, nil), api.ETAMPER)
	})
}

// Rule 4: what is handed in stays as it is, its spare room too, and shares nothing with the answer.
func TestWriteMemory(t *testing.T) {
	both(t, func(t *testing.T, b *box.Box) {
		room := bytes.Repeat([]byte{0xee}, 1000)
		list := [][]byte{room[10:20], room[20:300], room[20:20], room[500:600], []byte("spare")}
		keep := cloned(list)
		file := write(t, b, someID(), room[:10], list[:4])
		want := bytes.Clone(file)
		if !bytes.Equal(room, bytes.Repeat([]byte{0xee}, 1000)) || !same(list, keep) {
			t.Errorf("what was handed in is %x, %x", room, list)
		}
		clear(room)
		if !bytes.Equal(file, want) {
			t.Errorf("behind a change of what was handed in %x", file)
		}
		reads(t, b, someID(), file, content{keep[0], keep[:4]})
		clear(file[:cap(file)])
		reads(t, b, someID(), want, content{keep[0], keep[:4]})
	})
}
