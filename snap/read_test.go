package snap_test

import (
	"bytes"
	"encoding/binary"
	"math"
	"math/rand"
	"slices"
	"testing"

	"intaglio/api"
	"intaglio/box"
	"intaglio/snap"
	"intaglio/tree"
)

// reads asks for what a file has, and that reading seals nothing.
func reads(t *testing.T, b *box.Box, id api.KeyID, file []byte, want content) {
	t.Helper()
	sealed, repeats := b.Sealed(), b.Repeats()
	meta, entries, e := snap.Read(b, id, file)
	if e != api.OK || !bytes.Equal(meta, want.meta) || !same(entries, want.entries) {
		t.Errorf("%d, meta of %d, entries of %v, want %d, %v", e, len(meta), sizesOf(entries), len(want.meta), sizesOf(want.entries))
	}
	if b.Sealed() != sealed || b.Repeats() != repeats {
		t.Errorf("%d sealed, %d repeats, ahead %d, %d", b.Sealed(), b.Repeats(), sealed, repeats)
	}
}

// noRead asks for an error, with which nothing is told.
func noRead(t *testing.T, what string, b *box.Box, id api.KeyID, file []byte, want api.Errno) {
	t.Helper()
	if meta, entries, e := snap.Read(b, id, file); e != want || len(meta) != 0 || len(entries) != 0 {
		t.Errorf("%s: %d, meta of %d, entries of %v, want %d", what, e, len(meta), sizesOf(entries), want)
	}
}

// plainTexts are a file's texts, sealed; false: the file is no texts.
func plainTexts(file []byte) ([][]byte, bool) {
	var out [][]byte
	for len(file) > 0 {
		if len(file) < 4 || uint64(binary.BigEndian.Uint32(file)) > uint64(len(file)-4) {
			return nil, false
		}
		n := 4 + int(binary.BigEndian.Uint32(file))
		out = append(out, file[4:n])
		file = file[n:]
	}
	return out, len(out) > 0
}

// plainRead is Read by the chapter's words, of a box and an id that may be; false: ETAMPER.
func plainRead(b *box.Box, id api.KeyID, file []byte) (content, bool) {
	sealed, ok := plainTexts(file)
	if !ok {
		return content{}, false
	}
	first, e := b.Open(id, 0, nil, sealed[0])
	if e != api.OK || len(first) < 44 || int(binary.BigEndian.Uint32(first)) != len(first)-44 {
		return content{}, false
	}
	meta, n, root := first[4:len(first)-40], binary.BigEndian.Uint64(first[len(first)-40:]), first[len(first)-32:]
	if n != uint64(len(sealed)-1) {
		return content{}, false
	}
	var chunks [][]byte
	for i := 1; i < len(sealed); i++ {
		chunk, e := b.Open(id, i, root, sealed[i])
		if e != api.OK {
			return content{}, false
		}
		chunks = append(chunks, chunk)
	}
	entries, ok := plainSplit(chunks)
	if !ok || tree.Root(chunks) != [32]byte(root) {
		return content{}, false
	}
	return content{meta, entries}, true
}

// P13.3: what was written is read, also by another real box of the same secret.
func TestBack(t *testing.T) {
	both(t, func(t *testing.T, b *box.Box) {
		for i, c := range contents() {
			id := someID()
			id.Num = 100 + i
			reads(t, b, id, write(t, b, id, c.meta, c.entries), c)
		}
	})
	file := write(t, newBox(false), someID(), []byte("meta"), texts("one", "two"))
	reads(t, newBox(false), someID(), file, content{[]byte("meta"), texts("one", "two")})
}

// P13.3: many long entries are read again.
func TestBackOfMuch(t *testing.T) {
	entries := slices.Repeat([][]byte{filled(60000)}, 18)
	b := newBox(true)
	reads(t, b, someID(), write(t, b, someID(), nil, entries), content{nil, entries})
}

// P13.2: no box, and an id that may not be, are told ahead of all that a file has.
func TestReadTellsOpensErrors(t *testing.T) {
	files := [][]byte{nil, {}, filled(100), write(t, newBox(false), someID(), nil, texts("one"))}
	for _, file := range files {
		for name, b := range noBoxes() {
			for _, id := range append(wrongIDs(), someID()) {
				noRead(t, name, b, id, file, api.ENIL)
			}
		}
		both(t, func(t *testing.T, b *box.Box) {
			write(t, b, someID(), nil, texts("one"))
			for _, id := range wrongIDs() {
				noRead(t, "a wrong id", b, id, file, api.EARG)
			}
		})
	}
}

// P13.2: a file that was sealed with another id, by another secret, or by a box of the other kind.
func TestReadOfAnother(t *testing.T) {
	both(t, func(t *testing.T, b *box.Box) {
		c := content{[]byte("meta"), texts("one", "two")}
		file := write(t, b, someID(), c.meta, c.entries)
		for _, id := range otherIDs() {
			noRead(t, "another id", b, id, file, api.ETAMPER)
		}
		for _, id := range otherIDs() {
			other := write(t, b, id, c.meta, c.entries)
			noRead(t, "another id's file", b, someID(), other, api.ETAMPER)
			noRead(t, "the file, another id", b, id, file, api.ETAMPER)
			reads(t, b, id, other, c)
		}
		reads(t, b, someID(), file, c)
		noRead(t, "another secret", box.New([]byte("Secret"), false), someID(), file, api.ETAMPER)
		noRead(t, "another ideal one", newBox(true), someID(), file, api.ETAMPER)
	})
	noRead(t, "of the ideal kind", newBox(false), someID(), write(t, newBox(true), someID(), nil, nil), api.ETAMPER)
}

// edits tells each file that is like another but for one edit.
func edits(file []byte, tell func(what string, file []byte)) {
	for n := range len(file) {
		tell("cut behind", file[:n])
		tell("cut ahead", file[len(file)-n:])
		for _, by := range []byte{1, 2, 4, 8, 16, 32, 64, 128, 255} {
			turned := bytes.Clone(file)
			turned[n] ^= by
			tell("turned", turned)
		}
		tell("a byte less", slices.Delete(bytes.Clone(file), n, n+1))
	}
	for n := range len(file) + 1 {
		tell("a byte 0 more", slices.Insert(bytes.Clone(file), n, 0))
		tell("a byte more", slices.Insert(bytes.Clone(file), n, 0xa5))
	}
	tell("twice", slices.Concat(file, file))
	tell("a length behind", append(bytes.Clone(file), 0, 0, 0, 0))
	tell("a length more behind", append(bytes.Clone(file), 0, 0, 0, 1))
	tell("a text behind", append(bytes.Clone(file), put([]byte("text"))...))
	tell("many bytes behind", append(bytes.Clone(file), make([]byte, 1000)...))
}

// moves tells each file whose texts are another one's, but left out, doubled, moved, changed one with the other, or cut in two.
func moves(file []byte, tell func(what string, file []byte)) {
	parts := partsOf(file)
	told := func(what string, l [][]byte) { tell(what, bytes.Join(l, nil)) }
	for i := range parts {
		told("left out", slices.Delete(slices.Clone(parts), i, i+1))
		told("alone", parts[i:i+1])
		told("none from here on", parts[:i])
		told("from here on", parts[i+1:])
		for j := range len(parts) + 1 {
			told("doubled", slices.Insert(slices.Clone(parts), j, parts[i]))
			told("a text without bytes", slices.Insert(slices.Clone(parts), j, put(nil)))
		}
		for j := range parts {
			if i == j {
				continue
			}
			swapped := slices.Clone(parts)
			swapped[i], swapped[j] = swapped[j], swapped[i]
			told("changed with another", swapped)
			swapped = slices.Clone(parts)
			swapped[i] = swapped[j]
			told("in the place of another", swapped)
			moved := slices.Delete(slices.Clone(parts), i, i+1)
			told("moved", slices.Insert(moved, j, parts[i]))
		}
		cut := slices.Clone(parts)
		cut[i] = append(put(parts[i][4:10]), put(parts[i][10:])...)
		told("in two", cut)
		cut[i] = parts[i][4:]
		told("without its length", cut)
		cut[i] = put(parts[i])
		told("with its length twice", cut)
	}
}

// P13.2: a file that is edited in any way is told.
func TestEditedFiles(t *testing.T) {
	for what, c := range map[string]content{
		"nothing": {}, "meta": {[]byte("meta"), nil}, "an entry": {nil, texts("")}, "one": {[]byte("m"), texts("one")},
		"chunks": {[]byte("meta"), [][]byte{filled(30), filled(250), filled(250)}},
		"alike":  {nil, [][]byte{filled(200), filled(200), filled(200)}},
	} {
		both(t, func(t *testing.T, b *box.Box) {
			file := write(t, b, someID(), c.meta, c.entries)
			tell := func(how string, edited []byte) {
				if !bytes.Equal(edited, file) {
					noRead(t, what+", "+how, b, someID(), edited, api.ETAMPER)
				}
			}
			moves(file, tell)
			edits(file, tell)
			reads(t, b, someID(), file, c)
		})
	}
}

// forged is a file of texts that are sealed by who has the key.
func forged(t *testing.T, b *box.Box, l []sealing) []byte {
	t.Helper()
	return bytes.Join(sealedBy(t, b, someID(), l), nil)
}

// P13.2: a first text that is longer, shorter, or has another form, though who has the key sealed it.
func TestFirstTexts(t *testing.T) {
	both(t, func(t *testing.T, b *box.Box) {
		entries := [][]byte{filled(200), filled(200)}
		chunks := plainChunks(entries)
		meta := []byte("meta")
		right, root := headOf(meta, chunks)
		none := tree.Root(nil)
		one := tree.Root(chunks[:1])
		with := func(first []byte, chunks [][]byte) []byte {
			l := []sealing{{0, nil, first}}
			for i, chunk := range chunks {
				l = append(l, sealing{i + 1, root, chunk})
			}
			return forged(t, b, l)
		}
		reads(t, b, someID(), with(right, chunks), content{meta, entries})
		for n := range len(right) {
			noRead(t, "shorter", b, someID(), with(right[:n], chunks), api.ETAMPER)
			noRead(t, "shorter ahead", b, someID(), with(right[n+1:], chunks), api.ETAMPER)
			noRead(t, "shorter, without chunks", b, someID(), with(right[:n], nil), api.ETAMPER)
		}
		for what, first := range map[string][]byte{
			"a byte longer":           append(bytes.Clone(right), 0),
			"longer by a root":        append(bytes.Clone(right), root...),
			"a byte more ahead":       append([]byte{0}, right...),
			"as long as it may be":    append(bytes.Clone(right), make([]byte, api.MaxSealed-len(right))...),
			"fewer than there are":    plainHead(meta, 1, root),
			"none":                    plainHead(meta, 0, root),
			"one more than there are": plainHead(meta, 3, root),
			"many more":               plainHead(meta, most, root),
			"as many as there can be": plainHead(meta, math.MaxInt64, root),
			"2^63":                    plainHead(meta, 1<<63, root),
			"2^63 more":               plainHead(meta, 1<<63+2, root),
			"2^64 - 1":                plainHead(meta, math.MaxUint64, root),
			"2^32 more":               plainHead(meta, 1<<32+2, root),
			"another root":            plainHead(meta, 2, none[:]),
			"the first one's root":    plainHead(meta, 2, one[:]),
			"a root of noughts":       plainHead(meta, 2, make([]byte, 32)),
			"a root a byte shorter":   plainHead(meta, 2, root[:31]),
			"a root a byte longer":    plainHead(meta, 2, append(bytes.Clone(root), 0)),
			"no root":                 plainHead(meta, 2, nil),
			"meta of greater length":  append([]byte{0xff, 0xff, 0xff, 0xff}, right[4:]...),
			"meta of a byte more":     append([]byte{0, 0, 0, 5}, right[4:]...),
			"meta of a byte less":     append([]byte{0, 0, 0, 3}, right[4:]...),
			"meta of all":             put(right[4:]),
		} {
			noRead(t, what, b, someID(), with(first, chunks), api.ETAMPER)
			noRead(t, what+", without chunks", b, someID(), with(first, nil), api.ETAMPER)
			noRead(t, what+", of one chunk", b, someID(), with(first, chunks[:1]), api.ETAMPER)
		}
		for _, n := range []uint64{1 << 63, 1<<63 + 1, math.MaxUint64, 1 << 32, 1} {
			noRead(t, "a number of none", b, someID(), with(plainHead(meta, n, none[:]), nil), api.ETAMPER)
		}
		noRead(t, "none, and the root of none", b, someID(), with(plainHead(meta, 0, none[:]), chunks), api.ETAMPER)
		noRead(t, "none, and a byte behind", b, someID(), with(plainHead(meta, 0, append(bytes.Clone(none[:]), 0)), nil), api.ETAMPER)
		noRead(t, "none, and a byte less", b, someID(), with(plainHead(meta, 0, none[:31]), nil), api.ETAMPER)
		for _, other := range [][]byte{append(bytes.Clone(root), 0), root[:31], append(bytes.Clone(root), root...), nil} {
			l := sealingsOf(meta, chunks)
			l[0].text, l[1].ad, l[2].ad = plainHead(meta, 2, other), other, other
			noRead(t, "a root of another length beside all", b, someID(), forged(t, b, l), api.ETAMPER)
		}
		reads(t, b, someID(), with(plainHead(meta, 0, none[:]), nil), content{meta, nil})
	})
}

// P13.2: chunks that are sealed by who has the key, but not so, or that no entries have.
func TestForgedChunks(t *testing.T) {
	both(t, func(t *testing.T, b *box.Box) {
		chunks := plainChunks([][]byte{filled(200), filled(200), filled(200)})
		for what, change := range map[string]func(l []sealing) []sealing{
			"the first beside the root": func(l []sealing) []sealing { l[0].ad = l[1].ad; return l },
			"a chunk beside nothing":    func(l []sealing) []sealing { l[2].ad = nil; return l },
			"all beside nothing":        func(l []sealing) []sealing { l[1].ad, l[2].ad, l[3].ad = nil, nil, nil; return l },
			"beside another root":       func(l []sealing) []sealing { l[2].ad = make([]byte, 32); return l },
			"beside a byte more":        func(l []sealing) []sealing { l[2].ad = append(bytes.Clone(l[2].ad), 0); return l },
			"beside the first text":     func(l []sealing) []sealing { l[2].ad = l[0].text; return l },
			"the first with 1":          func(l []sealing) []sealing { l[0].n = 1; return l },
			"numbers from 0 on":         func(l []sealing) []sealing { l[1].n, l[2].n, l[3].n = 0, 1, 2; return l },
			"numbers from 2 on":         func(l []sealing) []sealing { l[1].n, l[2].n, l[3].n = 2, 3, 4; return l },
			"one number twice":          func(l []sealing) []sealing { l[2].n = 1; return l },
			"another chunk":             func(l []sealing) []sealing { l[2].text = put(filled(199)); return l },
			"chunks in another order":   func(l []sealing) []sealing { l[1].text = put(filled(199)); return l },
			"one left out":              func(l []sealing) []sealing { return l[:3] },
			"one more":                  func(l []sealing) []sealing { return append(l, sealing{4, l[1].ad, chunks[0]}) },
			"no first text":             func(l []sealing) []sealing { return l[1:] },
		} {
			noRead(t, what, b, someID(), forged(t, b, change(sealingsOf([]byte("meta"), chunks))), api.ETAMPER)
		}
		for what, chunks := range map[string][][]byte{
			"a chunk without bytes":   {{}},
			"a byte more":             {append(put(filled(3)), 0)},
			"an entry cut":            {put(filled(30))[:20]},
			"two that are one":        {put(nil), put(nil)},
			"two in one of 257 bytes": {append(put(laid(100)), put(laid(157))...)},
			"a text of 65536 bytes":   {make([]byte, api.MaxSealed)},
			"one without bytes more":  {put(laid(256)), nil},
		} {
			noRead(t, what, b, someID(), forged(t, b, sealingsOf([]byte("meta"), chunks)), api.ETAMPER)
		}
		reads(t, b, someID(), forged(t, b, sealingsOf(nil, chunks)), content{nil, [][]byte{filled(200), filled(200), filled(200)}})
	})
}

// P13.2: Read asks for a file's form alone; how much Write takes is Write's.
func TestReadHasNoLimits(t *testing.T) {
	both(t, func(t *testing.T, b *box.Box) {
		for _, c := range []content{
			{filled(1001), nil}, {filled(65492), texts("one")}, {nil, make([][]byte, 1001)},
			{nil, [][]byte{filled(60001), filled(65532)}}, {nil, slices.Repeat([][]byte{filled(250)}, 1001)},
		} {
			reads(t, b, someID(), forged(t, b, sealingsOf(c.meta, plainChunks(c.entries))), c)
		}
	})
}

// P13.2: files that are nothing, or any bytes.
func TestAnyBytes(t *testing.T) {
	rnd := rand.New(rand.NewSource(4))
	both(t, func(t *testing.T, b *box.Box) {
		for _, file := range [][]byte{nil, {}, {0}, {0, 0, 0, 0}, make([]byte, 100), {0xff, 0xff, 0xff, 0xff}, {0x7f, 0xff, 0xff, 0xff, 1}, put(make([]byte, 16)), put(filled(60)), put(make([]byte, 1<<17)), make([]byte, 1<<20)} {
			noRead(t, "of nobody", b, someID(), file, api.ETAMPER)
		}
		for range 300 {
			file := make([]byte, rnd.Intn(200))
			rnd.Read(file)
			if len(file) > 4 && rnd.Intn(2) == 0 {
				file = put(file)
			}
			noRead(t, "any", b, someID(), file, api.ETAMPER)
		}
	})
}

// Rule 4: a file stays as it is, and no two lists of an answer share memory with each other or with it.
func TestReadMemory(t *testing.T) {
	both(t, func(t *testing.T, b *box.Box) {
		c := content{[]byte("meta"), [][]byte{filled(10), filled(20), nil, filled(300)}}
		file := append(write(t, b, someID(), c.meta, c.entries), "spare"...)
		keep := bytes.Clone(file)
		meta, entries, e := snap.Read(b, someID(), file[:len(file)-5])
		if e != api.OK || !bytes.Equal(file, keep) {
			t.Errorf("%d, %x, want %x", e, file, keep)
		}
		clear(file)
		all := append([][]byte{meta}, entries...)
		want := append([][]byte{c.meta}, c.entries...)
		for i := range all {
			whole := all[i][:cap(all[i])]
			for j := range whole {
				whole[j] = 0xee
			}
			for j := i + 1; j < len(all); j++ {
				if !bytes.Equal(all[j], want[j]) {
					t.Errorf("behind a change of %d, %d is %q, want %q", i, j, all[j], want[j])
				}
			}
		}
		reads(t, b, someID(), keep[:len(keep)-5], c)
	})
}
