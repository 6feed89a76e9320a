package keys_test

import (
	"bytes"
	"encoding/binary"
	"math"
	"math/rand"
	"testing"

	"intaglio/api"
	"intaglio/keys"
)

const (
	most   = 1 << 40
	beyond = most + 1
)

// someID is an id all of whose numbers are unlike.
func someID() api.KeyID {
	return api.KeyID{Label: api.KLog, Epoch: 11, Life: 12, Num: 13, Side: 1, Peer: 14}
}

// fields are the places of an id's numbers, in the order of the chapter.
func fields(id *api.KeyID) [6]*int {
	return [6]*int{&id.Label, &id.Epoch, &id.Life, &id.Num, &id.Side, &id.Peer}
}

// plainValid asks by the chapter's words.
func plainValid(id api.KeyID) bool {
	inside := func(n int) bool { return n >= 0 && n <= most }
	return id.Label >= 1 && id.Label <= 6 && inside(id.Epoch) && inside(id.Life) && inside(id.Num) && inside(id.Peer) && (id.Side == 0 || id.Side == 1)
}

// plainBytes is an id as bytes, by the chapter's words.
func plainBytes(id api.KeyID) []byte {
	var out []byte
	for _, n := range []int{id.Label, id.Epoch, id.Life, id.Num, id.Side, id.Peer} {
		out = binary.BigEndian.AppendUint64(out, uint64(n))
	}
	return out
}

// checkID asks all that is told of an id that may be, or may not.
func checkID(t *testing.T, id api.KeyID, want bool) {
	t.Helper()
	if keys.Valid(id) != want {
		t.Errorf("%v: valid is not %v", id, want)
	}
	b := keys.Bytes(id)
	if want && !bytes.Equal(b, plainBytes(id)) || !want && len(b) != 0 {
		t.Errorf("%v: bytes %x", id, b)
	}
	back, ok := keys.Parse(plainBytes(id))
	if ok != want || want && back != id || !want && back != (api.KeyID{}) {
		t.Errorf("%v: read back as %v, %v", id, back, ok)
	}
	key, ok := keys.Derive([]byte("secret"), id)
	if ok != want || (key != [32]byte{}) != want {
		t.Errorf("%v: key %x, %v", id, key, ok)
	}
}

// P7.1, P7.2: each number of an id has its bounds, whatever the others are.
func TestBoundsOfEachNumber(t *testing.T) {
	wide := map[int]bool{-1: false, 0: true, 1: true, 2: true, 7: true, most - 1: true, most: true, beyond: false, 1 << 41: false, math.MaxInt: false, math.MinInt: false, -most: false}
	label := map[int]bool{-1: false, 0: false, 1: true, 2: true, 3: true, 4: true, 5: true, 6: true, 7: false, most: false, math.MaxInt: false, math.MinInt: false, 1 + 1<<32: false}
	side := map[int]bool{-1: false, 0: true, 1: true, 2: false, 3: false, most: false, math.MaxInt: false, math.MinInt: false, 1 + 1<<32: false}
	for _, start := range []api.KeyID{someID(), {Label: 1}, {Label: 6, Epoch: most, Life: most, Num: most, Side: 1, Peer: most}} {
		for i, bounds := range []map[int]bool{label, wide, wide, wide, side, wide} {
			for n, want := range bounds {
				id := start
				*fields(&id)[i] = n
				checkID(t, id, want)
			}
		}
	}
	checkID(t, api.KeyID{}, false)
}

// P7.1: an id with several numbers about their bounds may be just if each of them may.
func TestBoundsTogether(t *testing.T) {
	rnd := rand.New(rand.NewSource(1))
	edges := []int{math.MinInt, -1, 0, 0, 1, 1, 2, 6, 7, most, most, beyond, math.MaxInt}
	for range 5000 {
		var id api.KeyID
		for _, f := range fields(&id) {
			*f = edges[rnd.Intn(len(edges))]
		}
		checkID(t, id, plainValid(id))
	}
}

// P7.1: the chapter's example.
func TestBytesOfTheExample(t *testing.T) {
	got := keys.Bytes(api.KeyID{Label: 3, Life: 2})
	want := make([]byte, 48)
	want[7], want[23] = 3, 2
	if !bytes.Equal(got, want) {
		t.Errorf("%x, want %x", got, want)
	}
}

// P7.1: each number's eight bytes, the highest first, in the order of the chapter.
func TestBytesOfEachNumber(t *testing.T) {
	for i := range 6 {
		id := api.KeyID{Label: 1, Epoch: 1, Life: 1, Num: 1, Side: 1, Peer: 1}
		if i != 0 && i != 4 {
			*fields(&id)[i] = 0x0102030405
		}
		b := keys.Bytes(id)
		if len(b) != 48 {
			t.Fatalf("%v: %d bytes", id, len(b))
		}
		want := []byte{0, 0, 0, 0, 0, 0, 0, 1}
		if i != 0 && i != 4 {
			want = []byte{0, 0, 0, 1, 2, 3, 4, 5}
		}
		if !bytes.Equal(b[8*i:8*i+8], want) {
			t.Errorf("number %d of %v: %x", i, id, b)
		}
	}
}

// refusesBytes asks that no id has these bytes.
func refusesBytes(t *testing.T, what string, b []byte) {
	t.Helper()
	if id, ok := keys.Parse(b); ok || id != (api.KeyID{}) {
		t.Errorf("%s: %x read as %v, %v", what, b, id, ok)
	}
}

// P7.1: bytes of another length than an id's are no id's.
func TestParseOtherLengths(t *testing.T) {
	whole := keys.Bytes(someID())
	for n := range len(whole) {
		refusesBytes(t, "cut behind", whole[:n])
		refusesBytes(t, "cut ahead", whole[len(whole)-n:])
	}
	refusesBytes(t, "nil", nil)
	refusesBytes(t, "a byte more", append(bytes.Clone(whole), 0))
	refusesBytes(t, "a byte ahead", append([]byte{0}, whole...))
	refusesBytes(t, "twice", append(bytes.Clone(whole), whole...))
	refusesBytes(t, "many", make([]byte, 1<<16))
}

// P7.1: bytes are an id's just if their numbers may be; then that id has them.
func TestParseAnyBytes(t *testing.T) {
	rnd := rand.New(rand.NewSource(2))
	for range 5000 {
		b := plainBytes(someID())
		for range 1 + rnd.Intn(3) {
			b[rnd.Intn(len(b))] = byte(rnd.Intn(8)) * byte(1+rnd.Intn(32))
		}
		var id api.KeyID
		for i, f := range fields(&id) {
			*f = int(binary.BigEndian.Uint64(b[8*i:]))
		}
		checkID(t, id, plainValid(id))
		if back, ok := keys.Parse(b); ok != plainValid(id) || ok && !bytes.Equal(keys.Bytes(back), b) {
			t.Fatalf("%x: read as %v, %v", b, back, ok)
		}
	}
}

// P7.1: numbers from 2^63 on are no number's that may be, also where they are 0 in fewer bits.
func TestParseGreatNumbers(t *testing.T) {
	for i := range 6 {
		for _, high := range []byte{1, 2, 0x7f, 0x80, 0xff} {
			b := plainBytes(someID())
			b[8*i] = high
			refusesBytes(t, "a great number", b)
			for j := range 8 {
				b[8*i+j] = 0xff
			}
			refusesBytes(t, "a number of all bits", b)
		}
	}
}

// P7.4: unlike ids have unlike bytes, and unlike keys.
func TestUnlikeIDs(t *testing.T) {
	few := []int{0, 1, 256, most}
	seen, derived := map[string]api.KeyID{}, map[[32]byte]api.KeyID{}
	for label := 1; label <= 6; label++ {
		for side := range 2 {
			for at := range len(few) * len(few) * len(few) * len(few) {
				id := api.KeyID{Label: label, Epoch: few[at%4], Life: few[at/4%4], Num: few[at/16%4], Side: side, Peer: few[at/64]}
				b := string(keys.Bytes(id))
				if other, ok := seen[b]; ok || len(b) != 48 {
					t.Fatalf("%v and %v: %x", id, other, b)
				}
				seen[b] = id
				key, _ := keys.Derive([]byte("secret"), id)
				if other, ok := derived[key]; ok {
					t.Fatalf("%v and %v: one key", id, other)
				}
				derived[key] = id
			}
		}
	}
}

// Rule 4: what is handed in stays as it is, and an answer is new memory.
func TestMemoryOfIDs(t *testing.T) {
	b := keys.Bytes(someID())
	clear(b)
	if !bytes.Equal(keys.Bytes(someID()), plainBytes(someID())) {
		t.Error("an answer that was changed is told again")
	}
	room := append(keys.Bytes(someID()), 0xee, 0xee, 0xee)
	keep := bytes.Clone(room)
	if _, ok := keys.Parse(room[:48]); !ok || !bytes.Equal(room, keep) {
		t.Errorf("behind Parse: %x", room)
	}
}
