package box_test

import (
	"bytes"
	"encoding/binary"
	"math"
	"math/rand"
	"testing"

	"intaglio/api"
	"intaglio/box"
)

// numbered is a number, and bytes 0 behind it, so many in all.
func numbered(number uint64, size int) []byte {
	return append(binary.BigEndian.AppendUint64(nil, number), make([]byte, size-8)...)
}

func idealBox() *box.Box { return box.New([]byte("secret"), true) }

// P8.1: what an ideal box seals is the entry's number, and bytes 0; the chapter's example is the first.
func TestIdealSeals(t *testing.T) {
	b := idealBox()
	for i := range 600 {
		text := bytes.Repeat([]byte{0xee}, (i*7+1)%50)
		got := seal(t, b, otherIDs()[i%8], i%5, []byte("beside"), text)
		if want := numbered(uint64(i), len(text)+16); !bytes.Equal(got, want) {
			t.Fatalf("%d: %x, want %x", i, got, want)
		}
		mark(t, b, someID(), text)
	}
	if got := seal(t, idealBox(), someID(), 0, nil, []byte{1}); !bytes.Equal(got, make([]byte, 17)) {
		t.Errorf("first, of one byte: %x", got)
	}
}

// P8.3: the marks of an ideal box have numbers of their own, and bytes 0.
func TestIdealMarks(t *testing.T) {
	b := idealBox()
	for i := range 600 {
		seal(t, b, someID(), i, nil, nil)
		seal(t, b, someID(), i, nil, nil)
		got := mark(t, b, otherIDs()[i%8], bytes.Repeat([]byte{0xee}, i%50))
		if want := numbered(uint64(i), 32); !bytes.Equal(got, want) {
			t.Fatalf("%d: %x, want %x", i, got, want)
		}
	}
}

// P8.1, rule 2: an error takes no number of the ledger.
func TestErrorsTakeNoNumber(t *testing.T) {
	b := idealBox()
	noSeal(t, b, api.KeyID{}, 0, nil, nil, api.EARG)
	noSeal(t, b, someID(), -1, nil, nil, api.EARG)
	noSeal(t, b, someID(), 0, nil, make([]byte, api.MaxSealed+1), api.ELONG)
	b.Mark(api.KeyID{}, nil)
	b.Open(someID(), 0, nil, make([]byte, 16))
	b.Check(someID(), nil, make([]byte, 32))
	if got := seal(t, b, someID(), 0, nil, nil); !bytes.Equal(got, make([]byte, 16)) {
		t.Errorf("sealed first: %x", got)
	}
	if got := mark(t, b, someID(), nil); !bytes.Equal(got, make([]byte, 32)) {
		t.Errorf("marked first: %x", got)
	}
}

// P8.2, P8.3, P8.4: numbers that no entry has, whatever they are, open nothing and mark nothing.
func TestNumbersOfNoEntry(t *testing.T) {
	b := idealBox()
	for i := range 3 {
		seal(t, b, someID(), 0, nil, []byte("text"))
		mark(t, b, someID(), []byte{byte(i)})
	}
	for _, number := range []uint64{3, 4, 255, 256, 1 << 24, 1 << 32, 1<<32 + 1, 1 << 56, math.MaxInt64, 1 << 63, 1<<63 + 1, math.MaxUint64, math.MaxUint64 - 1} {
		refuses(t, "no entry's number", b, someID(), 0, nil, numbered(number, 20), api.EAUTH)
		for i := range 3 {
			if b.Check(someID(), []byte{byte(i)}, numbered(number, 32)) {
				t.Errorf("%d is a mark", number)
			}
		}
	}
	for number := range uint64(3) {
		opens(t, b, someID(), 0, nil, numbered(number, 20), []byte("text"))
	}
}

// P8.2: the bytes that stand for an entry are as long as that; those of an entry with another length are another's.
func TestLengthsOfEntries(t *testing.T) {
	b := idealBox()
	for n := range 40 {
		seal(t, b, someID(), 0, nil, bytes.Repeat([]byte{1}, n))
	}
	for number := range 40 {
		for size := 16; size < 60; size++ {
			if size == number+16 {
				opens(t, b, someID(), 0, nil, numbered(uint64(number), size), bytes.Repeat([]byte{1}, number))
			} else {
				refuses(t, "another length", b, someID(), 0, nil, numbered(uint64(number), size), api.EAUTH)
			}
		}
	}
}

// P8.4: what was sealed is no mark, and a mark opens nothing.
func TestLedgersApart(t *testing.T) {
	b := idealBox()
	text := make([]byte, 16)
	sealed := seal(t, b, someID(), 0, nil, text)
	if len(sealed) != 32 || b.Check(someID(), text, sealed) {
		t.Errorf("%x is a mark", sealed)
	}
	b = idealBox()
	m := mark(t, b, someID(), text)
	refuses(t, "a mark", b, someID(), 0, nil, m, api.EAUTH)
}

// sealing is what was sealed, and how; marking, what was marked.
type sealing struct {
	id               api.KeyID
	n                int
	ad, text, sealed string
}

type marking struct {
	id         api.KeyID
	text, mark string
}

// plainLedger is an ideal box by the chapter's words: lists that are gone through.
type plainLedger struct {
	sealings []sealing
	markings []marking
}

func (p *plainLedger) open(id api.KeyID, n int, ad, sealed string) (string, api.Errno) {
	for _, s := range p.sealings {
		if s.sealed == sealed && s.id == id && s.n == n && s.ad == ad {
			return s.text, api.OK
		}
	}
	return "", api.EAUTH
}

func (p *plainLedger) check(id api.KeyID, text, mark string) bool {
	for _, m := range p.markings {
		if m == (marking{id, text, mark}) {
			return true
		}
	}
	return false
}

// P8.4: an ideal box opens what was sealed, as it was, and finds right what it marked, and nothing else, whatever comes in any order.
func TestLedger(t *testing.T) {
	rnd := rand.New(rand.NewSource(5))
	ids := append(otherIDs()[:3], someID())
	words := []string{"", "a", "b", "ab", "\x00", "longer than those"}
	word := func() string { return words[rnd.Intn(len(words))] }
	b, plain := idealBox(), &plainLedger{}
	right, opened := 0, 0
	for range 20000 {
		id, n, ad, text := ids[rnd.Intn(len(ids))], rnd.Intn(2), word(), word()
		token := string(numbered(uint64(rnd.Intn(60)), 16+len(word())+16*rnd.Intn(2)))
		if rnd.Intn(20) == 0 {
			token = token[:16+rnd.Intn(len(token)-15)] + "x"
		}
		switch action := rnd.Intn(100); {
		case action == 0 && len(plain.sealings) < 60:
			sealed := seal(t, b, id, n, []byte(ad), []byte(text))
			plain.sealings = append(plain.sealings, sealing{id, n, ad, text, string(sealed)})
		case action == 1 && len(plain.markings) < 60:
			plain.markings = append(plain.markings, marking{id, text, string(mark(t, b, id, []byte(text)))})
		case action%2 == 0:
			want, we := plain.open(id, n, ad, token)
			got, e := b.Open(id, n, []byte(ad), []byte(token))
			if e != we || string(got) != want {
				t.Fatalf("%v, %d, %q, %x: %d, %q, want %d, %q", id, n, ad, token, e, got, we, want)
			}
			if e == api.OK {
				opened++
			}
		default:
			want := plain.check(id, text, token)
			if b.Check(id, []byte(text), []byte(token)) != want {
				t.Fatalf("%v, %q, %x: not %v", id, text, token, want)
			}
			if want {
				right++
			}
		}
	}
	for _, s := range plain.sealings {
		opens(t, b, s.id, s.n, []byte(s.ad), []byte(s.sealed), []byte(s.text))
	}
	for _, m := range plain.markings {
		if !b.Check(m.id, []byte(m.text), []byte(m.mark)) {
			t.Errorf("%x: not right", m.mark)
		}
	}
	if opened == 0 || right == 0 || len(plain.sealings) < 60 || len(plain.markings) < 60 {
		t.Errorf("opened %d, right %d, of %d sealed, %d marked", opened, right, len(plain.sealings), len(plain.markings))
	}
}
