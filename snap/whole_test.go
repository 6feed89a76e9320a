package snap_test

import (
	"bytes"
	"math/rand"
	"slices"
	"testing"

	"intaglio/api"
	"intaglio/box"
	"intaglio/snap"
)

// written is what was written with an id, once, and its file.
type written struct {
	id api.KeyID
	content
	file []byte
}

// writeSome writes any contents with ids that are like one another, each once.
func writeSome(t *testing.T, b *box.Box, rnd *rand.Rand) []written {
	t.Helper()
	var out []written
	for _, id := range append(otherIDs(), someID()) {
		c := content{filled(rnd.Intn(3)), someEntries(rnd, rnd.Intn(8))}
		if rnd.Intn(3) == 0 && len(out) > 0 {
			c = out[rnd.Intn(len(out))].content
		}
		out = append(out, written{id, c, write(t, b, id, c.meta, c.entries)})
	}
	return out
}

// anyFile is a file that somebody made of all files that there are: of their texts, and of their bytes.
func anyFile(rnd *rand.Rand, all []written) []byte {
	parts := partsOf(all[rnd.Intn(len(all))].file)
	for range rnd.Intn(4) {
		others := partsOf(all[rnd.Intn(len(all))].file)
		at, from := rnd.Intn(len(parts)), rnd.Intn(len(others))
		switch rnd.Intn(5) {
		case 0:
			parts = slices.Delete(parts, at, at+1)
		case 1:
			parts = slices.Insert(parts, at, others[from])
		case 2:
			parts[at] = others[from]
		case 3:
			parts = append(parts[:at:at], others[min(at, len(others)):]...)
		case 4:
			other := rnd.Intn(len(parts))
			parts[at], parts[other] = parts[other], parts[at]
		}
		if len(parts) == 0 {
			return nil
		}
	}
	file := bytes.Join(parts, nil)
	switch rnd.Intn(10) {
	case 0:
		file[rnd.Intn(len(file))] ^= 1 << rnd.Intn(8)
	case 1:
		file = file[:rnd.Intn(len(file))]
	case 2:
		file = append(file, make([]byte, rnd.Intn(20))...)
	}
	return file
}

// sameAs asks that Read tells what the chapter's words tell; it tells whether that is no error.
func sameAs(t *testing.T, b *box.Box, id api.KeyID, file []byte) (content, bool) {
	t.Helper()
	want, ok := plainRead(b, id, file)
	if !ok {
		noRead(t, "any", b, id, file, api.ETAMPER)
		return content{}, false
	}
	reads(t, b, id, file, want)
	return want, true
}

// P13.4: of an ideal box, of ids each written with once, what is read is what was written with that id, whatever the file.
func TestWhole(t *testing.T) {
	rnd := rand.New(rand.NewSource(5))
	right, wrong := 0, 0
	for range 100 {
		b := newBox(true)
		all := writeSome(t, b, rnd)
		for _, w := range all {
			for range 30 {
				file := anyFile(rnd, all)
				got, ok := sameAs(t, b, w.id, file)
				if !ok {
					wrong++
					continue
				}
				right++
				if !bytes.Equal(file, w.file) || !bytes.Equal(got.meta, w.meta) || !same(got.entries, w.entries) {
					t.Fatalf("%v: read what was not written with it", w.id)
				}
			}
			for _, other := range all {
				if _, ok := sameAs(t, b, w.id, other.file); ok != (other.id == w.id) {
					t.Fatalf("%v, the file of %v: %v", w.id, other.id, ok)
				}
			}
		}
	}
	if right < 100 || wrong < 1000 {
		t.Errorf("%d right, %d wrong", right, wrong)
	}
}

// P13.2: whatever who has the key seals and puts together, Read tells what the chapter's words tell.
func TestAnyForged(t *testing.T) {
	rnd := rand.New(rand.NewSource(6))
	right := 0
	for range 1500 {
		b := newBox(true)
		chunks := plainChunks(someEntries(rnd, 1+rnd.Intn(5)))
		l := sealingsOf(filled(rnd.Intn(5)), chunks)
		for range rnd.Intn(3) {
			at := rnd.Intn(len(l))
			s := &l[at]
			switch rnd.Intn(7) {
			case 0:
				s.n = rnd.Intn(4)
			case 1:
				s.ad = l[rnd.Intn(len(l))].ad
			case 2:
				s.text = l[rnd.Intn(len(l))].text
			case 3:
				s.text = s.text[:rnd.Intn(len(s.text)+1)]
			case 4:
				s.text = append(bytes.Clone(s.text), make([]byte, rnd.Intn(8))...)
			case 5:
				if len(s.text) > 0 {
					s.text = bytes.Clone(s.text)
					s.text[rnd.Intn(len(s.text))] ^= 1 << rnd.Intn(8)
				}
			case 6:
				// Texts that are sealed so, of chunks that may be no chunks of any entries.
				odd := slices.Clone(chunks)
				odd[rnd.Intn(len(odd))] = put(filled(rnd.Intn(30)))
				l = sealingsOf(nil, odd)
			}
		}
		if _, ok := sameAs(t, b, someID(), forged(t, b, l)); ok {
			right++
		}
	}
	if right < 200 || right > 1400 {
		t.Errorf("%d of 1500 were right", right)
	}
}

// P13.4: reading changes nothing: between other calls a file is read as ahead.
func TestReadBetween(t *testing.T) {
	rnd := rand.New(rand.NewSource(7))
	both(t, func(t *testing.T, b *box.Box) {
		all := writeSome(t, b, rnd)
		for range 3 {
			for _, w := range all {
				reads(t, b, w.id, w.file, w.content)
				snap.Read(b, w.id, w.file[1:])
				snap.Read(b, api.KeyID{}, w.file)
				snap.Write(b, api.KeyID{}, w.meta, w.entries)
			}
		}
	})
}
