package chain_test

import (
	"bytes"
	"math"
	"math/rand"
	"testing"

	"intaglio/api"
	"intaglio/chain"
	"intaglio/disk"
)

// P20.1: each record is sealed with its number, the chain beside, and stands behind the others; only Sync lets them last.
func TestAdd(t *testing.T) {
	rnd := rand.New(rand.NewSource(1))
	both(t, func(t *testing.T, ideal bool) {
		r := newRig(t, ideal, 100)
		kept := 0
		for i, rec := range someRecs(rnd, 100) {
			r.add(rec, api.OK)
			r.holds(kept)
			if i%3 == 2 {
				r.sync(api.OK)
				kept = len(r.want.file())
				r.holds(kept)
			}
		}
		r.add(nil, api.ESPENT)
		r.sync(api.OK)
	})
}

// P20.1: the chapter's example.
func TestSizeOfARecord(t *testing.T) {
	both(t, func(t *testing.T, ideal bool) {
		r := newRig(t, ideal, 2)
		r.add([]byte("abc"), api.OK)
		if f, e := r.d.Read("f"); e != api.OK || len(f) != 23 {
			t.Errorf("%d, %d bytes", e, len(f))
		}
		r.add(nil, api.OK)
		if f, e := r.d.Read("f"); e != api.OK || len(f) != 23+20 {
			t.Errorf("%d, %d bytes", e, len(f))
		}
	})
}

// P20.1: a record has at most 60000 bytes; one of more changes nothing.
func TestLongRecords(t *testing.T) {
	both(t, func(t *testing.T, ideal bool) {
		r := newRig(t, ideal, 4)
		for _, n := range []int{59999, 60000} {
			r.add(filled(n), api.OK)
			for _, more := range []int{60001, 60002, 65536, 65537, 1 << 21} {
				r.add(filled(more), api.ELONG)
			}
		}
		r.holds(0)
		r.add([]byte("a"), api.OK)
		r.sync(api.OK)
		r.holds(len(r.want.file()))
	})
}

// P20.1: a log takes most records, and none if that is 0 or less; that is told behind a record's length, and changes nothing.
func TestMost(t *testing.T) {
	both(t, func(t *testing.T, ideal bool) {
		for _, n := range []int{math.MinInt, -most, -1, 0, 1, 2, 5} {
			r := newRig(t, ideal, n)
			for range max(n, 0) {
				r.add([]byte("a"), api.OK)
			}
			for range 2 {
				r.add(nil, api.ESPENT)
				r.add(filled(60000), api.ESPENT)
				r.add(filled(60001), api.ELONG)
				r.holds(0)
			}
			r.sync(api.OK)
			r.add(nil, api.ESPENT)
			r.holds(len(r.want.file()))
		}
		for _, n := range []int{most - 1, most, most + 1, math.MaxInt} {
			r := newRig(t, ideal, n)
			r.add([]byte("a"), api.OK)
			r.add([]byte("b"), api.OK)
		}
	})
}

// spoilers are what lets the disk tell an error to the next Append, and to the next Sync.
func spoilers() map[string]func(r *rig) (onAdd, onSync api.Errno) {
	return map[string]func(r *rig) (onAdd, onSync api.Errno){
		"power goes": func(r *rig) (onAdd, onSync api.Errno) {
			r.p.Fuse(0)
			return api.EDOWN, api.EDOWN
		},
		"power is off": func(r *rig) (onAdd, onSync api.Errno) {
			r.p.Fuse(0)
			r.p.Act()
			return api.EDOWN, api.EDOWN
		},
		"the file is gone": func(r *rig) (onAdd, onSync api.Errno) {
			r.d.Load(nil)
			return api.ENONE, api.ENONE
		},
		"the file is full": func(r *rig) (onAdd, onSync api.Errno) {
			r.d.Edit("f", make([]byte, api.MaxFile))
			return api.EFULL, api.OK
		},
	}
}

// over asks that the log has ended, and stays so: whatever is asked of it is told at the wrong time.
func (r *rig) over(ahead []api.File) {
	r.Helper()
	for range 2 {
		for _, n := range []int{0, 1, 60000, 60001} {
			r.add(filled(n), api.ESTATE)
		}
		r.sync(api.ESTATE)
		// The power comes again, and the files too: the log does not.
		r.p.Mend()
		r.d.Load(ahead)
	}
}

// P20.1, P20.5: an error of Append ends the log: its number is used, and nothing is sealed any more.
func TestAddByADiskWithErrors(t *testing.T) {
	both(t, func(t *testing.T, ideal bool) {
		for what, spoil := range spoilers() {
			for n := range 3 {
				t.Run(what, func(t *testing.T) {
					r := newRig(t, ideal, 3)
					for range n {
						r.add([]byte("ahead"), api.OK)
					}
					ahead := r.d.Image()
					want, _ := spoil(r)
					r.used++ // by the record that is lost
					r.add([]byte("lost"), want)
					r.over(ahead)
				})
			}
		}
	})
}

// P20.1: a log that is full, or a record that is too long, is told ahead of the disk's error, which it does not come to.
func TestNoRecordNoDisk(t *testing.T) {
	both(t, func(t *testing.T, ideal bool) {
		for what, spoil := range spoilers() {
			t.Run(what, func(t *testing.T) {
				r := newRig(t, ideal, 1)
				r.add([]byte("ahead"), api.OK)
				_, want := spoil(r)
				r.add(filled(60001), api.ELONG)
				r.add(nil, api.ESPENT)
				r.sync(want)
			})
		}
	})
}

// P20.1: an error of Sync ends the log; no number is used by it.
func TestSyncByADiskWithErrors(t *testing.T) {
	both(t, func(t *testing.T, ideal bool) {
		for what, spoil := range spoilers() {
			for n := range 3 {
				t.Run(what, func(t *testing.T) {
					r := newRig(t, ideal, 3)
					for range n {
						r.add([]byte("ahead"), api.OK)
					}
					ahead := r.d.Image()
					_, want := spoil(r)
					r.sync(want)
					if want != api.OK {
						r.over(ahead)
					}
				})
			}
		}
	})
}

// P20.1: Add and Sync are an act each.
func TestActsOfALog(t *testing.T) {
	for _, adds := range []int{0, 1, 4} {
		r := newRig(t, true, 10)
		r.p.Fuse(adds + 1)
		for range adds {
			r.add([]byte("a"), api.OK)
		}
		r.sync(api.OK)
		r.used++
		r.add(nil, api.EDOWN)
	}
}

// P20.1: a file that fills up takes records to its last byte.
func TestFileToItsEnd(t *testing.T) {
	r := newRig(t, true, 100)
	for range 17 {
		r.add(filled(60000), api.OK)
	}
	left := api.MaxFile - len(r.want.file()) - 20
	r.add(filled(left-20), api.OK)
	r.add(nil, api.OK)
	r.used++
	r.add(nil, api.EFULL)
	r.add(nil, api.ESTATE)
	r.holds(0)
}

// Rule 6: a log that Create did not make.
func TestNoLogs(t *testing.T) {
	for what, l := range noLogs() {
		t.Run(what, func(t *testing.T) {
			for range 2 {
				for _, n := range []int{0, 1, 60000, 60001} {
					if e := l.Add(filled(n)); e != api.ENIL {
						t.Error(e)
					}
				}
				if e := l.Sync(); e != api.ENIL {
					t.Error(e)
				}
				if l.Len() != 0 || l.Chain() != [32]byte{} {
					t.Error(l.Len(), l.Chain())
				}
			}
		})
	}
}

// Rules 3 and 4: nil and no bytes are one; a record is not kept, nor changed, nor what stands behind it.
func TestMemoryOfRecords(t *testing.T) {
	both(t, func(t *testing.T, ideal bool) {
		r := newRig(t, ideal, 4)
		r.add(nil, api.OK)
		r.add([]byte{}, api.OK)
		room := []byte("recordroom")
		r.add(room[:6], api.OK)
		if string(room) != "recordroom" {
			t.Errorf("%q", room)
		}
		clear(room)
		r.sync(api.OK)
		r.holds(len(r.want.file()))
		f, _ := r.d.Read("f")
		if recs, _ := chain.Replay(r.b, someID(), f); len(recs) != 3 || string(recs[2]) != "record" {
			t.Errorf("%q", recs)
		}
	})
}

// P20.1: logs of unlike ids, on one disk and by one box, go each their own way.
func TestLogsBeside(t *testing.T) {
	both(t, func(t *testing.T, ideal bool) {
		p, b := disk.Plug(), newBox(ideal)
		d := disk.New(p)
		want, logs := map[string]*plain{}, map[string]*chain.Log{}
		plainBox := newBox(ideal)
		for i, id := range otherIDs() {
			name := string(rune('a' + i))
			want[name] = newPlain(t, plainBox, id)
			logs[name], _ = chain.Create(d, b, id, name, 5)
		}
		for n := range 30 {
			name := string(rune('a' + n%6))
			if e := logs[name].Add([]byte{byte(n)}); e != api.OK {
				t.Fatal(name, e)
			}
			want[name].add([]byte{byte(n)})
		}
		for name, m := range want {
			f, e := d.Read(name)
			if e != api.OK || !bytes.Equal(f, m.file()) || logs[name].Chain() != m.chain || logs[name].Len() != 5 {
				t.Errorf("%s: %d, %d bytes, %d records", name, e, len(f), logs[name].Len())
			}
		}
		if b.Sealed() != 30 || b.Repeats() != 0 {
			t.Errorf("%d sealed, %d repeats", b.Sealed(), b.Repeats())
		}
	})
}

// P20.5: whatever is called, and whatever goes wrong, nothing is sealed twice with one number.
func TestNeverTwice(t *testing.T) {
	for seed := range int64(200) {
		rnd := rand.New(rand.NewSource(seed))
		p, b := disk.Plug(), newBox(seed%2 == 0)
		d := disk.New(p)
		l, _ := chain.Create(d, b, someID(), "f", rnd.Intn(12))
		old := d.Image()
		for range 40 {
			switch rnd.Intn(9) {
			case 0:
				p.Fuse(rnd.Intn(4))
			case 1:
				d.Crash([]int{rnd.Intn(50)})
			case 2:
				old = d.Image()
			case 3:
				if rnd.Intn(3) == 0 {
					d.Load(old)
				}
			case 4:
				l.Sync()
			case 5:
				l.Add(filled(60001))
			default:
				l.Add(filled(rnd.Intn(20)))
			}
			if b.Repeats() != 0 {
				t.Fatalf("seed %d: %d repeats", seed, b.Repeats())
			}
		}
	}
}
