package chain_test

import (
	"bytes"
	"math/rand"
	"slices"
	"testing"

	"intaglio/api"
	"intaglio/box"
	"intaglio/chain"
)

// someFile is a file of five records, its records, and its parts.
func someFile(t *testing.T, b *box.Box) (file []byte, recs, parts [][]byte) {
	t.Helper()
	recs = texts("one", "", "three", "four: longer than the others are", "5")
	m := plainFile(t, b, someID(), recs)
	return m.file(), recs, m.parts
}

// sizeOf is how many bytes parts have.
func sizeOf(parts [][]byte) int { return len(bytes.Join(parts, nil)) }

// P20.2, P20.3: what was added is replayed, also by another real box of the same secret.
func TestBack(t *testing.T) {
	rnd := rand.New(rand.NewSource(2))
	both(t, func(t *testing.T, ideal bool) {
		for n := range 20 {
			r := newRig(t, ideal, n)
			recs := someRecs(rnd, n)
			for _, rec := range recs {
				r.add(rec, api.OK)
			}
			f, _ := r.d.Read("f")
			replays(t, "all", r.b, someID(), f, recs, len(f))
			if !ideal {
				replays(t, "by another", newBox(false), someID(), f, recs, len(f))
			}
		}
	})
}

// P20.3: behind a crash what was synced is replayed, and of the rest the first records, as far as they are there.
func TestBackBehindACrash(t *testing.T) {
	both(t, func(t *testing.T, ideal bool) {
		recs := texts("one", "two", "three", "four")
		for synced := range 5 {
			for cut := range 90 {
				r := newRig(t, ideal, 4)
				kept := 0
				for i, rec := range recs {
					if i == synced {
						r.sync(api.OK)
						kept = len(r.want.file())
					}
					r.add(rec, api.OK)
				}
				whole := r.want.file()
				r.d.Crash([]int{cut})
				left := whole[:kept+cut%(len(whole)-kept+1)]
				if synced == 4 {
					left = whole[:cut%(len(whole)+1)]
				}
				n, used := 0, 0
				for n < 4 && used+len(r.want.parts[n]) <= len(left) {
					used += len(r.want.parts[n])
					n++
				}
				if f, _ := r.d.Read("f"); !bytes.Equal(f, left) || synced < 4 && n < synced {
					t.Fatalf("%d synced, cut %d: %d bytes, want %d", synced, cut, len(f), len(left))
				}
				replays(t, "behind a crash", r.b, someID(), left, recs[:n], used)
			}
		}
	})
}

// P20.2: a file that is cut anywhere has the records that are there whole.
func TestCut(t *testing.T) {
	both(t, func(t *testing.T, ideal bool) {
		b := newBox(ideal)
		file, recs, parts := someFile(t, b)
		for n := range len(file) + 1 {
			whole, used := 0, 0
			for whole < 5 && used+len(parts[whole]) <= n {
				used += len(parts[whole])
				whole++
			}
			replays(t, "cut", b, someID(), file[:n], recs[:whole], used)
			if n > 0 {
				replays(t, "cut ahead", b, someID(), file[n:], nil, 0)
			}
		}
	})
}

// edited asks what is replayed of a file that was edited within the record i, or behind all: those ahead of it, and others just if the file begins with them still (a byte ahead of like ones may stand as one of these).
func edited(t *testing.T, b *box.Box, file []byte, recs, parts [][]byte, i int) {
	t.Helper()
	n := i
	for n < len(parts) && bytes.HasPrefix(file, bytes.Join(parts[:n+1], nil)) {
		n++
	}
	replays(t, "edited", b, someID(), file, recs[:n], sizeOf(parts[:n]))
}

// P20.2: a byte that is turned ends the records ahead of that in which it stands.
func TestTurned(t *testing.T) {
	both(t, func(t *testing.T, ideal bool) {
		b := newBox(ideal)
		file, recs, parts := someFile(t, b)
		at := 0
		for i, part := range parts {
			for range part {
				for _, by := range []byte{1, 2, 4, 8, 16, 32, 64, 128, 255} {
					turned := bytes.Clone(file)
					turned[at] ^= by
					replays(t, "turned", b, someID(), turned, recs[:i], sizeOf(parts[:i]))
				}
				edited(t, b, slices.Delete(bytes.Clone(file), at, at+1), recs, parts, i)
				at++
			}
		}
	})
}

// P20.2: bytes that are put in end the records there, if they are not behind all of them.
func TestBytesMore(t *testing.T) {
	both(t, func(t *testing.T, ideal bool) {
		b := newBox(ideal)
		file, recs, parts := someFile(t, b)
		for at := range len(file) + 1 {
			for _, more := range [][]byte{{0}, {0xa5}, {0, 0, 0, 0}, {0, 0, 0, 1, 7}, {0xff, 0xff, 0xff, 0xff}, put(filled(16)), file} {
				i := 0
				for i < 5 && sizeOf(parts[:i+1]) <= at {
					i++
				}
				edited(t, b, slices.Insert(bytes.Clone(file), at, more...), recs, parts, i)
			}
		}
		replays(t, "twice", b, someID(), slices.Concat(file, file), recs, len(file))
	})
}

// P20.2: records that are left out, doubled, or in another order.
func TestOtherOrders(t *testing.T) {
	both(t, func(t *testing.T, ideal bool) {
		b := newBox(ideal)
		_, recs, parts := someFile(t, b)
		begins := func(what string, n int, parts [][]byte) {
			t.Helper()
			replays(t, what, b, someID(), bytes.Join(parts, nil), recs[:n], sizeOf(parts[:n]))
		}
		for i := range parts {
			begins("left out", i, slices.Delete(slices.Clone(parts), i, i+1))
			begins("doubled", i+1, slices.Insert(slices.Clone(parts), i, parts[i]))
			for j := range i {
				swapped := slices.Clone(parts)
				swapped[i], swapped[j] = swapped[j], swapped[i]
				begins("swapped", j, swapped)
				begins("doubled in front", j, slices.Insert(slices.Clone(parts), j, parts[i]))
				begins("put over another one", j, slices.Replace(slices.Clone(parts), j, j+1, parts[i]))
			}
			begins("from there on", 0, append(parts[i:len(parts):len(parts)], parts[:i]...)[:5*min(i, 1)])
		}
	})
}

// P20.2: a file of another id, another secret, another box.
func TestReplayOfAnother(t *testing.T) {
	both(t, func(t *testing.T, ideal bool) {
		b := newBox(ideal)
		file, recs, parts := someFile(t, b)
		for _, id := range otherIDs() {
			other := plainFile(t, b, id, recs)
			replays(t, "by another id", b, id, file, nil, 0)
			replays(t, "another id's", b, someID(), other.file(), nil, 0)
			replays(t, "another id's by it", b, id, other.file(), recs, len(other.file()))
			mixed := append(slices.Clone(parts[:2]), other.parts[2:]...)
			replays(t, "the end is another id's", b, someID(), bytes.Join(mixed, nil), recs[:2], sizeOf(parts[:2]))
		}
		replays(t, "another secret", box.New([]byte("Secret"), false), someID(), file, nil, 0)
		replays(t, "another box", newBox(true), someID(), file, nil, 0)
		if ideal {
			replays(t, "a real box", newBox(false), someID(), file, nil, 0)
		}
	})
}

// P20.2, rule 6: nothing is replayed with an id that is not Valid, or by a box that no call made.
func TestReplayOfNone(t *testing.T) {
	both(t, func(t *testing.T, ideal bool) {
		b := newBox(ideal)
		file, _, _ := someFile(t, b)
		for _, f := range [][]byte{nil, {}, {0}, filled(100), file} {
			for _, id := range wrongIDs() {
				replays(t, "a wrong id", b, id, f, nil, 0)
			}
			for what, none := range noBoxes() {
				replays(t, what, none, someID(), f, nil, 0)
				replays(t, what, none, api.KeyID{}, f, nil, 0)
			}
		}
		for _, f := range [][]byte{nil, {}, {0}, {0, 0, 0, 0}, make([]byte, 100), filled(100), bytes.Repeat([]byte{255}, 100)} {
			replays(t, "no records", b, someID(), f, nil, 0)
		}
	})
}

// P20.2: what counts is that the box opens it so: also longer records, that Add does not take.
func TestLongerRecordsThanAdded(t *testing.T) {
	both(t, func(t *testing.T, ideal bool) {
		b := newBox(ideal)
		recs := [][]byte{filled(60001), filled(65536), nil}
		m := plainFile(t, b, someID(), recs)
		replays(t, "long", b, someID(), m.file(), recs, len(m.file()))
	})
}

// P20.2: records that who has the key sealed otherwise: with another number, or another chain beside.
func TestSealedOtherwise(t *testing.T) {
	both(t, func(t *testing.T, ideal bool) {
		for at := range 3 {
			for _, how := range []string{"number", "chain", "first chain", "no chain", "chain of the part", "right"} {
				b := newBox(ideal)
				recs := texts("a", "b", "c", "d")
				m := plainFile(t, b, someID(), recs[:at])
				n, beside, want := at, m.chain[:], at
				switch how {
				case "number":
					n++
				case "chain":
					beside = append([]byte{m.chain[0] ^ 1}, m.chain[1:]...)
				case "first chain":
					first := newPlain(t, b, someID()).chain
					beside = first[:]
					if at == 0 {
						want++
					}
				case "no chain":
					beside = nil
				case "chain of the part":
					beside = put(m.chain[:])
				case "right":
					want++
				}
				file := append(m.file(), put(m.seal(n, beside, recs[at]))...)
				replays(t, how, b, someID(), file, recs[:want], (4+1+16)*want)
			}
		}
	})
}

// Rule 4: the file is not changed, nor what stands behind it; what is told is new memory, each record's its own.
func TestMemoryOfReplay(t *testing.T) {
	both(t, func(t *testing.T, ideal bool) {
		b := newBox(ideal)
		file, want, _ := someFile(t, b)
		room := append(bytes.Clone(file), filled(50)...)
		keep := bytes.Clone(room)
		recs, _ := chain.Replay(b, someID(), room[:len(file)])
		for _, rec := range recs {
			for i := range rec {
				rec[i]++
			}
			_ = append(rec, "behind a record"...)
		}
		for i, rec := range recs {
			for j, c := range rec {
				if c != want[i][j]+1 {
					t.Fatalf("record %d: %q", i, rec)
				}
			}
		}
		if !bytes.Equal(room, keep) {
			t.Error("the file has changed")
		}
		replays(t, "again", b, someID(), file, want, len(file))
	})
}

// anyFile is a file that somebody made of the records of all logs.
func anyFile(rnd *rand.Rand, logs []*plain) []byte {
	parts := slices.Clone(logs[rnd.Intn(len(logs))].parts)
	for range rnd.Intn(4) {
		if len(parts) == 0 {
			return nil
		}
		other := logs[rnd.Intn(len(logs))].parts
		at := rnd.Intn(len(parts))
		switch rnd.Intn(5) {
		case 0:
			parts = slices.Delete(parts, at, at+1)
		case 1:
			parts = slices.Insert(parts, at, other[rnd.Intn(len(other))])
		case 2:
			parts[at] = other[rnd.Intn(len(other))]
		case 3:
			parts = append(parts[:at:at], other[min(at, len(other)):]...)
		case 4:
			parts = parts[:at]
		}
	}
	file := bytes.Join(parts, nil)
	if len(file) > 0 {
		switch rnd.Intn(8) {
		case 0:
			file[rnd.Intn(len(file))] ^= 1 << rnd.Intn(8)
		case 1:
			file = file[:rnd.Intn(len(file))]
		case 2:
			file = append(file, make([]byte, rnd.Intn(20))...)
		}
	}
	return file
}

// P20.4: of an ideal box, and ids each of which one log was made with, what is replayed of any file is the beginning of what was added with that id.
func TestForged(t *testing.T) {
	rnd := rand.New(rand.NewSource(4))
	none, some, all := 0, 0, 0
	for range 150 {
		b := newBox(true)
		var logs []*plain
		var recs [][][]byte
		for _, id := range append(otherIDs(), someID()) {
			l := someRecs(rnd, 1+rnd.Intn(6))
			if len(recs) > 0 && rnd.Intn(3) == 0 {
				l = recs[rnd.Intn(len(recs))]
			}
			recs, logs = append(recs, l), append(logs, plainFile(t, b, id, l))
		}
		for range 100 {
			file, i := anyFile(rnd, logs), rnd.Intn(len(logs))
			got, used := chain.Replay(b, logs[i].id, file)
			if len(got) > len(recs[i]) || !same(got, recs[i][:len(got)]) || used != sizeOf(logs[i].parts[:len(got)]) || !bytes.HasPrefix(file, logs[i].file()[:used]) {
				t.Fatalf("%d records of %d bytes, that were not added so", len(got), used)
			}
			want, n := plainReplay(b, logs[i].id, file)
			replays(t, "any", b, logs[i].id, file, want, n)
			switch len(got) {
			case 0:
				none++
			case len(recs[i]):
				all++
			default:
				some++
			}
		}
	}
	if none < 500 || some < 200 || all < 200 {
		t.Errorf("%d none, %d some, %d all", none, some, all)
	}
}
