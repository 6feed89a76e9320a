package snap_test

import (
	"bytes"
	"math/rand"
	"slices"
	"testing"

	"intaglio/api"
	"intaglio/snap"
)

// chunked asks what Chunks tells of entries, and that Split tells them again.
func chunked(t *testing.T, entries [][]byte) [][]byte {
	t.Helper()
	got := snap.Chunks(entries)
	if want := plainChunks(entries); !same(got, want) {
		t.Errorf("entries of %v: chunks of %v, want %v", sizesOf(entries), sizesOf(got), sizesOf(want))
	}
	if back, e := snap.Split(got); e != api.OK || !same(back, entries) {
		t.Errorf("entries of %v: %d, %v back", sizesOf(entries), e, sizesOf(back))
	}
	return got
}

// noSplit asks that there are no entries of which these are the chunks.
func noSplit(t *testing.T, what string, chunks [][]byte) {
	t.Helper()
	if got, e := snap.Split(chunks); e != api.EFORM || len(got) != 0 {
		t.Errorf("%s: %d, %q", what, e, got)
	}
}

// lengths asks how long the chunks of entries are.
func lengths(t *testing.T, entries [][]byte, want ...int) {
	t.Helper()
	if got := sizesOf(chunked(t, entries)); !slices.Equal(got, want) {
		t.Errorf("entries of %v: chunks of %v, want %v", sizesOf(entries), got, want)
	}
}

// P13.1: the chapter's example, and what small chunks are.
func TestChunksByHand(t *testing.T) {
	lengths(t, [][]byte{filled(100), filled(100), filled(200)}, 208, 204)
	for _, c := range []struct{ entries, chunks []string }{
		{nil, nil},
		{[]string{""}, []string{"\x00\x00\x00\x00"}},
		{[]string{"a"}, []string{"\x00\x00\x00\x01a"}},
		{[]string{"a", "", "bc"}, []string{"\x00\x00\x00\x01a\x00\x00\x00\x00\x00\x00\x00\x02bc"}},
	} {
		if got := chunked(t, texts(c.entries...)); !same(got, texts(c.chunks...)) {
			t.Errorf("%q: %q, want %q", c.entries, got, c.chunks)
		}
	}
	if got := snap.Chunks([][]byte{}); len(got) != 0 {
		t.Errorf("of none: %q", got)
	}
	if got := snap.Chunks([][]byte{nil}); !same(got, snap.Chunks([][]byte{{}})) {
		t.Errorf("of nil: %q", got)
	}
}

// P13.1: a chunk has at most 256 bytes, unless it is one entry's.
func TestChunksAtTheEdges(t *testing.T) {
	for _, size := range []int{254, 255, 256, 257, 258, 1000} {
		lengths(t, [][]byte{laid(size)}, size)
	}
	for ahead := 4; ahead <= 252; ahead++ {
		lengths(t, [][]byte{laid(ahead), laid(256 - ahead)}, 256)
		lengths(t, [][]byte{laid(ahead), laid(257 - ahead)}, ahead, 257-ahead)
		if ahead < 252 {
			lengths(t, [][]byte{laid(ahead), laid(255 - ahead), nil}, 255, 4)
		}
		lengths(t, [][]byte{laid(ahead), laid(256 - ahead), nil}, 256, 4)
		lengths(t, [][]byte{laid(ahead), laid(300), laid(ahead)}, ahead, 300, ahead)
	}
	for _, size := range []int{253, 254, 255, 256, 257, 300, 1000} {
		lengths(t, [][]byte{laid(size), nil, nil}, size, 8)
		lengths(t, [][]byte{nil, laid(size), nil}, 4, size, 4)
		lengths(t, [][]byte{laid(size), laid(size)}, size, size)
	}
	lengths(t, [][]byte{laid(252), nil, nil}, 256, 4)
	lengths(t, [][]byte{laid(252), laid(5), nil}, 252, 9)
}

// P13.1: an entry goes into the last chunk alone, though one ahead has room for it.
func TestOnlyTheLastChunkGrows(t *testing.T) {
	lengths(t, [][]byte{nil, laid(254), nil, nil}, 4, 254, 8)
	lengths(t, [][]byte{laid(10), laid(250), laid(10)}, 10, 250, 10)
	lengths(t, [][]byte{laid(10), laid(250), laid(6), laid(10)}, 10, 256, 10)
}

// P13.1: entries without bytes take four bytes each.
func TestChunksOfNothing(t *testing.T) {
	lengths(t, make([][]byte, 63), 252)
	lengths(t, make([][]byte, 64), 256)
	lengths(t, make([][]byte, 65), 256, 4)
	lengths(t, make([][]byte, 129), 256, 256, 4)
}

// P13.1: entries and chunks have no limit of a snapshot's.
func TestChunksBeyondSnapshots(t *testing.T) {
	lengths(t, [][]byte{filled(60001), filled(1 << 17), nil}, 60005, 1<<17+4, 4)
	if got := chunked(t, make([][]byte, 3000)); len(got) != 47 {
		t.Errorf("%d chunks", len(got))
	}
	if got := chunked(t, slices.Repeat([][]byte{filled(200)}, 1500)); len(got) != 1500 {
		t.Errorf("%d chunks", len(got))
	}
}

// P13.1: whatever entries there are, their Chunks are as the chapter says, and these are split into them again.
func TestAnyChunks(t *testing.T) {
	rnd := rand.New(rand.NewSource(1))
	for range 1000 {
		chunked(t, someEntries(rnd, rnd.Intn(30)))
	}
}

// P13.1: chunks that no entries have.
func TestNoChunks(t *testing.T) {
	for what, chunks := range map[string][][]byte{
		"a chunk without bytes":        {{}},
		"nil":                          {nil},
		"one without bytes behind":     {put(nil), {}},
		"one without bytes ahead":      {{}, put(nil)},
		"one without bytes between":    {put(laid(256)), nil, put(nil)},
		"a byte":                       {{0}},
		"three bytes":                  {{0, 0, 0}},
		"an entry cut":                 {{0, 0, 0, 1}},
		"an entry cut by a byte":       {{0, 0, 0, 3, 'a', 'b'}},
		"a byte more":                  {{0, 0, 0, 1, 'a', 0}},
		"three bytes more":             {{0, 0, 0, 1, 'a', 0, 0, 0}},
		"a length more":                {{0, 0, 0, 1, 'a', 0, 0, 0, 1}},
		"a great length":               {{0xff, 0xff, 0xff, 0xff, 'a'}},
		"a length below 0":             {{0x80, 0, 0, 0, 'a'}},
		"two that are one":             {put(nil), put(nil)},
		"two that are one of 256":      {put(laid(250)), put(laid(6))},
		"three of which two are one":   {put(laid(256)), put(laid(10)), put(laid(10))},
		"two in one that is too long":  {append(put(laid(253)), put(nil)...)},
		"two in one of 257":            {append(put(laid(100)), put(laid(157))...)},
		"an entry that ends behind":    {{0, 0, 0, 3, 'a'}, {'b', 'c'}},
		"a long one that ends behind":  {put(laid(400))[:256], put(laid(400))[256:]},
		"a length that ends behind":    {{0, 0}, {0, 0}},
		"an entry in the next chunk":   {put(laid(200)), append(put(laid(40)), put(laid(20))...), put(laid(256))},
		"a last one in the next chunk": {append(put(laid(200)), put(laid(40))...), put(laid(16)), put(laid(256))},
		"nothing behind a whole chunk": {put(laid(256)), {}},
		"a long chunk, and more":       {append(put(laid(253)), 0), put(nil)},
		"the lengths laid turned":      {{1, 0, 0, 0, 'a'}},
	} {
		if _, ok := plainSplit(chunks); ok {
			t.Errorf("%s: right by the chapter's words", what)
		}
		noSplit(t, what, chunks)
	}
}

// P13.1: no chunks are those of no entries.
func TestSplitOfNone(t *testing.T) {
	for _, chunks := range [][][]byte{nil, {}} {
		if got, e := snap.Split(chunks); e != api.OK || len(got) != 0 {
			t.Errorf("%d, %q", e, got)
		}
	}
}

// askSplit asks what Split tells of chunks, and whether it told entries.
func askSplit(t *testing.T, chunks [][]byte) bool {
	t.Helper()
	want, ok := plainSplit(chunks)
	if !ok {
		noSplit(t, "any", chunks)
		return false
	}
	if got, e := snap.Split(chunks); e != api.OK || !same(got, want) {
		t.Errorf("chunks of %v: %d, entries of %v, want %v", sizesOf(chunks), e, sizesOf(got), sizesOf(want))
	}
	return true
}

// P13.1: whatever chunks there are, Split tells what the chapter's words tell.
func TestAnySplit(t *testing.T) {
	rnd := rand.New(rand.NewSource(2))
	right := 0
	for range 10000 {
		chunks := plainChunks(someEntries(rnd, 1+rnd.Intn(12)))
		switch at := rnd.Intn(len(chunks)); rnd.Intn(8) {
		case 0:
			chunks = slices.Delete(chunks, at, at+1)
		case 1:
			chunks = slices.Insert(chunks, at, chunks[rnd.Intn(len(chunks))])
		case 2:
			other := rnd.Intn(len(chunks))
			chunks[at], chunks[other] = chunks[other], chunks[at]
		case 3:
			chunks[at] = chunks[at][:rnd.Intn(len(chunks[at]))]
		case 4:
			chunks[at][rnd.Intn(len(chunks[at]))] ^= 1 << rnd.Intn(8)
		case 5:
			cut := rnd.Intn(len(chunks[at]) + 1)
			chunks = slices.Insert(chunks, at+1, chunks[at][cut:])
			chunks[at] = chunks[at][:cut]
		case 6:
			chunks[at] = append(chunks[at], put(filled(rnd.Intn(4)))[:rnd.Intn(8)%5]...)
		}
		if askSplit(t, chunks) {
			right++
		}
	}
	if right < 1000 || right > 9000 {
		t.Errorf("%d of 10000 were right", right)
	}
}

// Rule 4: what is handed in stays as it is, and no two texts of an answer share memory with each other or with it.
func TestMemoryOfChunks(t *testing.T) {
	for name, call := range map[string]func(l [][]byte) [][]byte{
		"Chunks": snap.Chunks,
		"Split": func(l [][]byte) [][]byte {
			got, _ := snap.Split(l)
			return got
		},
	} {
		l := [][]byte{filled(10), filled(20), filled(300), nil, filled(240), filled(7)}
		if name == "Split" {
			l = plainChunks(l)
		}
		room := append(cloned(l), []byte("spare"))
		for i := range room {
			room[i] = append(room[i], "room"...)[:len(room[i])]
		}
		keep := cloned(room)
		got := call(room[:len(l)])
		want := cloned(got)
		for i := range room {
			if spare := room[i][:len(room[i])+4]; !bytes.Equal(spare, append(bytes.Clone(keep[i]), "room"...)) {
				t.Errorf("%s: what was handed in is %q", name, spare)
			}
			clear(room[i])
		}
		if !same(got, want) {
			t.Errorf("%s: behind a change of what was handed in %q", name, got)
		}
		for i := range got {
			whole := got[i][:cap(got[i])]
			for j := range whole {
				whole[j] = 0xee
			}
			for j := range got {
				if j != i && !bytes.Equal(got[j], want[j]) {
					t.Errorf("%s: %d and %d share memory", name, i, j)
				}
			}
			got[i] = bytes.Clone(want[i])
		}
	}
}
