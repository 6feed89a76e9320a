package vault_test

import (
	"bytes"
	"crypto/sha256"
	"encoding/binary"
	"fmt"
	"slices"
	"strings"

	"intaglio/api"
	"intaglio/box"
	"intaglio/cell"
	"intaglio/disk"
	"intaglio/snap"
	"intaglio/vault"
)

const most = 1 << 40

// num is a number as eight bytes.
func num(n int) []byte { return binary.BigEndian.AppendUint64(nil, uint64(n)) }

// put is a text, its length ahead.
func put(text []byte) []byte {
	return append(binary.BigEndian.AppendUint32(nil, uint32(len(text))), text...)
}

// texts are entries, or commands, of strings.
func texts(s ...string) [][]byte {
	var out [][]byte
	for _, one := range s {
		out = append(out, []byte(one))
	}
	return out
}

// filled is n bytes.
func filled(n int) []byte { return bytes.Repeat([]byte{'x'}, n) }

// same tells whether two lists have the same texts.
func same(a, b [][]byte) bool { return slices.EqualFunc(a, b, bytes.Equal) }

// names are the names of a generation's files.
func names(life, gen int) (snapshot, log string) {
	return fmt.Sprintf("snap.%d.%d", life, gen), fmt.Sprintf("log.%d.%d", life, gen)
}

// idOf is an id of a generation.
func idOf(label, epoch, life, gen int) api.KeyID {
	return api.KeyID{Label: label, Epoch: epoch, Life: life, Num: gen}
}

// commandOf and bindOf are records of a log.
func commandOf(text string) []byte { return append([]byte{1}, text...) }

func bindOf(life, n int) []byte { return slices.Concat([]byte{2}, num(life), num(n)) }

// sealer seals records one behind the other, by the words of chapter 20.
type sealer struct {
	b     *box.Box
	id    api.KeyID
	n     int
	chain [32]byte
}

func newSealer(b *box.Box, id api.KeyID) *sealer {
	all := slices.Concat(num(id.Label), num(id.Epoch), num(id.Life), num(id.Num), num(0), num(0))
	return &sealer{b: b, id: id, chain: sha256.Sum256(all)}
}

// seal is the bytes of one record more.
func (s *sealer) seal(rec []byte) []byte {
	sealed, e := s.b.Seal(s.id, s.n, s.chain[:], rec)
	if e != api.OK {
		panic(e)
	}
	s.n++
	s.chain = sha256.Sum256(slices.Concat(s.chain[:], sealed))
	return put(sealed)
}

// open is the records with which a file begins.
func (s *sealer) open(file []byte) [][]byte {
	var out [][]byte
	for len(file) >= 4 && uint64(len(file)-4) >= uint64(binary.BigEndian.Uint32(file)) {
		sealed := file[4 : 4+int(binary.BigEndian.Uint32(file))]
		rec, e := s.b.Open(s.id, s.n, s.chain[:], sealed)
		if e != api.OK {
			break
		}
		s.n++
		s.chain = sha256.Sum256(slices.Concat(s.chain[:], sealed))
		out, file = append(out, rec), file[4+len(sealed):]
	}
	return out
}

// headOf is a head's file.
func headOf(b *box.Box, epoch, life, gen int) []byte {
	sealed, e := b.Seal(idOf(api.KHead, epoch, life, gen), 0, nil, []byte("head"))
	if e != api.OK {
		panic(e)
	}
	return slices.Concat(num(epoch), num(life), num(gen), put(sealed))
}

// world is what a vault stands on.
type world struct {
	p, q *disk.Power // of the disk, and of the cell
	d    *disk.Disk
	c    *cell.Cell
	b    *box.Box
}

// newWorld is a world of nothing; apart: the cell has a power of its own.
func newWorld(ideal, apart bool, cells api.Bounds) world {
	w := world{p: disk.Plug(), b: box.New([]byte("secret"), ideal)}
	w.q = w.p
	if apart {
		w.q = disk.Plug()
	}
	w.d, w.c = disk.New(w.p), cell.New(w.q, cells)
	return w
}

// plain is a vault by the chapter's words.
type plain struct {
	world
	bounds               api.Bounds
	begun, ended         bool
	epoch, life, gen, at int // at: the number of the last bind
	taken                []string
	log                  *sealer
	pending              int
}

// plainBound is a bound as it counts.
func plainBound(n int) int {
	if n < 0 {
		return 0
	}
	if n > most {
		return most
	}
	return n
}

// plainHead is what a head tells; false: it is none.
func plainHead(b *box.Box, file []byte) (epoch, life, gen int, ok bool) {
	if len(file) != 48 || binary.BigEndian.Uint32(file[24:]) != 20 {
		return 0, 0, 0, false
	}
	n := [3]int{}
	for i := range n {
		n[i] = int(binary.BigEndian.Uint64(file[8*i:]))
		if n[i] < 0 || n[i] > most {
			return 0, 0, 0, false
		}
	}
	text, e := b.Open(idOf(api.KHead, n[0], n[1], n[2]), 0, nil, file[28:])
	return n[0], n[1], n[2], e == api.OK && string(text) == "head"
}

// plainRecs is the commands of records, as far as they count, and the pin of the last bind; false: they are not such, or there is no bind.
func plainRecs(recs [][]byte) (commands [][]byte, pin api.Pin, ok bool) {
	last := -1
	for i, rec := range recs {
		switch {
		case len(rec) > 0 && rec[0] == 1:
		case len(rec) == 17 && rec[0] == 2 && rec[1] < 128 && rec[9] < 128:
			last = i
			pin = api.Pin{Life: int(binary.BigEndian.Uint64(rec[1:])), Num: int(binary.BigEndian.Uint64(rec[9:]))}
		default:
			return nil, api.Pin{}, false
		}
	}
	if last < 0 {
		return nil, api.Pin{}, false
	}
	for _, rec := range recs[:last] {
		if rec[0] == 1 {
			commands = append(commands, rec[1:])
		}
	}
	return commands, pin, true
}

// boot is Boot by the chapter's words, of things that were made.
func (w world) boot(bounds api.Bounds) (*plain, vault.Found, api.Errno) {
	m := &plain{world: w, bounds: bounds}
	var found vault.Found
	head, e := w.d.Read("head")
	if e == api.ENONE && w.c.Pin() != (api.Pin{}) {
		return nil, found, api.ETAMPER
	}
	if e != api.OK && e != api.ENONE {
		return nil, found, e
	}
	if e == api.OK {
		if found, e = m.find(head); e != api.OK {
			return nil, vault.Found{}, e
		}
	}
	if m.life, e = w.c.Birth(); e != api.OK {
		return nil, vault.Found{}, e
	}
	return m, found, api.OK
}

// find is what the generation has that a head tells.
func (m *plain) find(head []byte) (found vault.Found, e api.Errno) {
	epoch, life, gen, ok := plainHead(m.b, head)
	if !ok {
		return found, api.ETAMPER
	}
	snapName, logName := names(life, gen)
	snapshot, e1 := m.d.Read(snapName)
	log, e2 := m.d.Read(logName)
	if e1 != api.OK || e2 != api.OK {
		return found, api.ETAMPER
	}
	_, entries, e := snap.Read(m.b, idOf(api.KSnap, epoch, life, gen), snapshot)
	commands, pin, ok := plainRecs(newSealer(m.b, idOf(api.KLog, epoch, life, gen)).open(log))
	now := m.c.Pin()
	if e != api.OK || !ok || pin.Life < now.Life || pin.Life == now.Life && pin.Num < now.Num {
		return found, api.ETAMPER
	}
	m.epoch, m.taken = epoch, []string{snapName, logName}
	return vault.Found{Entries: entries, Recs: commands}, api.OK
}

func (m *plain) begin(entries [][]byte) api.Errno {
	if m.begun || m.ended {
		return api.ESTATE
	}
	return m.renew(m.epoch, entries)
}

func (m *plain) rewrite(entries [][]byte, turn bool) api.Errno {
	switch {
	case !m.begun || m.ended:
		return api.ESTATE
	case turn:
		return m.renew(m.epoch+1, entries)
	}
	return m.renew(m.epoch, entries)
}

func (m *plain) renew(epoch int, entries [][]byte) api.Errno {
	gen, at := m.gen+1, m.at+1
	if gen > plainBound(m.bounds.Gen) || epoch > plainBound(m.bounds.Epoch) || at > plainBound(m.bounds.Pin) || 1+len(snap.Chunks(entries)) > plainBound(m.bounds.Nonce) {
		return api.ESPENT
	}
	snapshot, e := snap.Write(m.b, idOf(api.KSnap, epoch, m.life, gen), nil, entries)
	if e != api.OK {
		return e
	}
	snapName, logName := names(m.life, gen)
	log := newSealer(m.b, idOf(api.KLog, epoch, m.life, gen))
	if e := m.replace(epoch, gen, at, snapshot, log); e != api.OK {
		m.ended = true
		return e
	}
	m.begun, m.epoch, m.gen, m.at, m.pending = true, epoch, gen, at, 0
	m.taken, m.log = []string{snapName, logName}, log
	return api.OK
}

// replace is the acts of a new generation, in their order.
func (m *plain) replace(epoch, gen, at int, snapshot []byte, log *sealer) (e api.Errno) {
	snapName, logName := names(m.life, gen)
	for _, f := range m.d.Image() {
		if f.Name == "head" || len(m.taken) == 2 && (f.Name == m.taken[0] || f.Name == m.taken[1]) {
			continue
		}
		if e = m.d.Remove(f.Name); e != api.OK {
			return e
		}
	}
	if e = m.d.Create(snapName); e != api.OK {
		return e
	}
	if e = m.d.Append(snapName, snapshot); e != api.OK {
		return e
	}
	if e = m.d.Sync(snapName); e != api.OK {
		return e
	}
	if e = m.d.Create(logName); e != api.OK {
		return e
	}
	if e = m.d.Append(logName, log.seal(bindOf(m.life, at))); e != api.OK {
		return e
	}
	if e = m.d.Sync(logName); e != api.OK {
		return e
	}
	return m.take(epoch, gen, at)
}

// take is the acts by which a generation is taken, and the one ahead goes.
func (m *plain) take(epoch, gen, at int) (e api.Errno) {
	head := headOf(m.b, epoch, m.life, gen)
	if e = m.d.Create("head.new"); e != api.OK {
		return e
	}
	if e = m.d.Append("head.new", head); e != api.OK {
		return e
	}
	if e = m.d.Sync("head.new"); e != api.OK {
		return e
	}
	if e = m.d.Rename("head.new", "head"); e != api.OK {
		return e
	}
	if e = m.c.Raise(api.Pin{Life: m.life, Num: at}); e != api.OK {
		return e
	}
	for _, name := range m.taken {
		if !slices.Contains(m.d.Names(), name) {
			continue
		}
		if e = m.d.Remove(name); e != api.OK {
			return e
		}
	}
	return api.OK
}

// room tells whether the log has fewer records than it may have ahead of a command.
func (m *plain) room() bool { return m.log.n < plainBound(m.bounds.Nonce)-1 }

// append puts a record into the log.
func (m *plain) append(rec []byte) api.Errno {
	e := m.d.Append(m.taken[1], m.log.seal(rec))
	if e != api.OK {
		m.ended = true
	}
	return e
}

func (m *plain) add(rec []byte) api.Errno {
	switch {
	case !m.begun || m.ended:
		return api.ESTATE
	case len(rec) > 50000:
		return api.ELONG
	case !m.room():
		return api.ESPENT
	}
	e := m.append(slices.Concat([]byte{1}, rec))
	if e == api.OK {
		m.pending++
	}
	return e
}

func (m *plain) full() bool { return m.begun && !m.ended && !m.room() }

func (m *plain) commit() api.Errno {
	switch {
	case !m.begun || m.ended:
		return api.ESTATE
	case m.pending == 0:
		return api.OK
	case m.at+1 > plainBound(m.bounds.Pin):
		return api.ESPENT
	}
	if e := m.append(bindOf(m.life, m.at+1)); e != api.OK {
		return e
	}
	e := m.d.Sync(m.taken[1])
	if e == api.OK {
		e = m.c.Raise(api.Pin{Life: m.life, Num: m.at + 1})
	}
	if e != api.OK {
		m.ended = true
		return e
	}
	m.at, m.pending = m.at+1, 0
	return api.OK
}

// told is what files are, for a test to tell.
func told(l []api.File) string {
	var out []string
	for _, f := range l {
		out = append(out, fmt.Sprintf("%s %d/%d %.40x", f.Name, f.Kept, len(f.Data), f.Data))
	}
	return strings.Join(out, "; ")
}
