package chain_test

import (
	"bytes"
	"crypto/sha256"
	"encoding/binary"
	"math"
	"math/rand"
	"slices"
	"testing"

	"intaglio/api"
	"intaglio/box"
	"intaglio/chain"
	"intaglio/disk"
)

const most = 1 << 40

// someID is an id all of whose numbers are unlike.
func someID() api.KeyID {
	return api.KeyID{Label: api.KLog, Epoch: 11, Life: 12, Num: 13, Side: 1, Peer: 14}
}

// fields are the places of an id's numbers.
func fields(id *api.KeyID) []*int {
	return []*int{&id.Label, &id.Epoch, &id.Life, &id.Num, &id.Side, &id.Peer}
}

// otherIDs are ids that are like someID but for one number.
func otherIDs() []api.KeyID {
	var out []api.KeyID
	for i := range 6 {
		id := someID()
		*fields(&id)[i] ^= 1
		out = append(out, id)
	}
	return out
}

// wrongIDs are ids that may not be.
func wrongIDs() []api.KeyID {
	out := []api.KeyID{{}, {Label: 7}, {Label: -1}, {Label: math.MaxInt}, {Life: 1, Num: 1}}
	for _, n := range []int{-1, most + 1, math.MinInt, math.MaxInt} {
		for i := range 6 {
			id := someID()
			*fields(&id)[i] = n
			out = append(out, id)
		}
	}
	id := someID()
	id.Side = 2
	return append(out, id)
}

// newBox is a box of a secret that all have.
func newBox(ideal bool) *box.Box { return box.New([]byte("secret"), ideal) }

// both does something with boxes of each kind.
func both(t *testing.T, do func(t *testing.T, ideal bool)) {
	t.Helper()
	t.Run("real", func(t *testing.T) { do(t, false) })
	t.Run("ideal", func(t *testing.T) { do(t, true) })
}

// noBoxes are boxes that New did not make.
func noBoxes() map[string]*box.Box {
	return map[string]*box.Box{"nil": nil, "new": new(box.Box), "zero": {}}
}

// noDisks are disks that New did not make.
func noDisks() map[string]*disk.Disk {
	return map[string]*disk.Disk{"nil": nil, "new": new(disk.Disk), "zero": {}}
}

// noLogs are logs that Create did not make.
func noLogs() map[string]*chain.Log {
	return map[string]*chain.Log{"nil": nil, "new": new(chain.Log), "zero": {}}
}

// put is a text, its length ahead.
func put(text []byte) []byte {
	return append(binary.BigEndian.AppendUint32(nil, uint32(len(text))), text...)
}

// filled is n bytes.
func filled(n int) []byte { return bytes.Repeat([]byte{'x'}, n) }

// texts are records of strings.
func texts(s ...string) [][]byte {
	var out [][]byte
	for _, one := range s {
		out = append(out, []byte(one))
	}
	return out
}

// someRecs are records of any bytes, also of none.
func someRecs(rnd *rand.Rand, n int) [][]byte {
	var out [][]byte
	for range n {
		rec := make([]byte, rnd.Intn(4)*rnd.Intn(12))
		rnd.Read(rec)
		out = append(out, rec)
	}
	return out
}

// same tells whether two lists have the same texts.
func same(a, b [][]byte) bool { return slices.EqualFunc(a, b, bytes.Equal) }

// idBytes is an id as bytes.
func idBytes(id api.KeyID) []byte {
	var out []byte
	for _, n := range fields(&id) {
		out = binary.BigEndian.AppendUint64(out, uint64(*n))
	}
	return out
}

// plain is a log by the chapter's words: its records as its file has them, and its chain.
type plain struct {
	t     *testing.T
	b     *box.Box
	id    api.KeyID
	parts [][]byte
	chain [32]byte
}

func newPlain(t *testing.T, b *box.Box, id api.KeyID) *plain {
	return &plain{t: t, b: b, id: id, chain: sha256.Sum256(idBytes(id))}
}

// seal is a record, sealed with a number and what stands beside.
func (m *plain) seal(n int, beside, rec []byte) []byte {
	m.t.Helper()
	sealed, e := m.b.Seal(m.id, n, beside, rec)
	if e != api.OK {
		m.t.Fatalf("%v, %d: %d", m.id, n, e)
	}
	return sealed
}

// add is one record more.
func (m *plain) add(rec []byte) {
	m.t.Helper()
	sealed := m.seal(len(m.parts), m.chain[:], rec)
	m.parts = append(m.parts, put(sealed))
	m.chain = sha256.Sum256(append(m.chain[:], sealed...))
}

// file is the bytes of all records.
func (m *plain) file() []byte { return bytes.Join(m.parts, nil) }

// plainFile is the file of a log of records, by the chapter's words.
func plainFile(t *testing.T, b *box.Box, id api.KeyID, recs [][]byte) *plain {
	t.Helper()
	m := newPlain(t, b, id)
	for _, rec := range recs {
		m.add(rec)
	}
	return m
}

// plainReplay is Replay by the chapter's words, of a box and an id that may be.
func plainReplay(b *box.Box, id api.KeyID, file []byte) (recs [][]byte, used int) {
	sum := sha256.Sum256(idBytes(id))
	for {
		rest := file[used:]
		if len(rest) < 4 || uint64(len(rest)-4) < uint64(binary.BigEndian.Uint32(rest)) {
			return recs, used
		}
		sealed := rest[4 : 4+int(binary.BigEndian.Uint32(rest))]
		rec, e := b.Open(id, len(recs), sum[:], sealed)
		if e != api.OK {
			return recs, used
		}
		sum = sha256.Sum256(slices.Concat(sum[:], sealed))
		recs, used = append(recs, rec), used+4+len(sealed)
	}
}

// replays asks for what is replayed of a file, and that replaying seals nothing.
func replays(t *testing.T, what string, b *box.Box, id api.KeyID, file []byte, want [][]byte, used int) {
	t.Helper()
	sealed, repeats := b.Sealed(), b.Repeats()
	recs, n := chain.Replay(b, id, file)
	if !same(recs, want) || n != used {
		t.Errorf("%s: %d records of %d bytes, want %d of %d", what, len(recs), n, len(want), used)
	}
	if b.Sealed() != sealed || b.Repeats() != repeats {
		t.Errorf("%s: %d sealed, %d repeats, ahead %d, %d", what, b.Sealed(), b.Repeats(), sealed, repeats)
	}
}

// rig is a log on a disk, and a plain one by a box of its own.
type rig struct {
	*testing.T
	p    *disk.Power
	d    *disk.Disk
	b    *box.Box
	l    *chain.Log
	want *plain
	used int // how many numbers are used
}

// newRig is a log of the file f, of no record.
func newRig(t *testing.T, ideal bool, most int) *rig {
	t.Helper()
	r := &rig{T: t, p: disk.Plug(), b: newBox(ideal), want: newPlain(t, newBox(ideal), someID())}
	r.d = disk.New(r.p)
	var e api.Errno
	if r.l, e = chain.Create(r.d, r.b, someID(), "f", most); e != api.OK || r.l == nil {
		t.Fatalf("%d, %v", e, r.l)
	}
	r.is()
	return r
}

// is asks for all that the log and its box tell.
func (r *rig) is() {
	r.Helper()
	if r.l.Len() != len(r.want.parts) || r.l.Chain() != r.want.chain {
		r.Errorf("%d records, chain %x, want %d, %x", r.l.Len(), r.l.Chain(), len(r.want.parts), r.want.chain)
	}
	if r.b.Sealed() != r.used || r.b.Repeats() != 0 {
		r.Errorf("%d sealed, %d repeats, want %d", r.b.Sealed(), r.b.Repeats(), r.used)
	}
}

// holds asks for the log's file, of which so many bytes are kept.
func (r *rig) holds(kept int) {
	r.Helper()
	want := r.want.file()
	l := r.d.Image()
	if len(l) != 1 || l[0].Name != "f" || !bytes.Equal(l[0].Data, want) || l[0].Kept != kept {
		r.Errorf("%v, want %x, %d kept", l, want, kept)
	}
}

// add asks for an error of Add; with OK there is a record more.
func (r *rig) add(rec []byte, want api.Errno) {
	r.Helper()
	if e := r.l.Add(rec); e != want {
		r.Errorf("add of %d bytes to %d records: %d, want %d", len(rec), len(r.want.parts), e, want)
	}
	if want == api.OK {
		r.want.add(rec)
		r.used++
	}
	r.is()
}

// sync asks for an error of Sync.
func (r *rig) sync(want api.Errno) {
	r.Helper()
	if e := r.l.Sync(); e != want {
		r.Errorf("sync: %d, want %d", e, want)
	}
	r.is()
}
