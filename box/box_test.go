package box_test

import (
	"bytes"
	"math"
	"math/rand"
	"testing"

	"intaglio/api"
	"intaglio/box"
)

const most = 1 << 40

// someID is an id all of whose numbers are unlike.
func someID() api.KeyID {
	return api.KeyID{Label: api.KLog, Epoch: 11, Life: 12, Num: 13, Side: 1, Peer: 14}
}

// otherIDs are ids that are like someID but for one number.
func otherIDs() []api.KeyID {
	var out []api.KeyID
	for i := range 6 {
		id := someID()
		field := []*int{&id.Label, &id.Epoch, &id.Life, &id.Num, &id.Side, &id.Peer}[i]
		*field ^= 1
		out = append(out, id)
	}
	return append(out, api.KeyID{Label: api.KLog}, api.KeyID{Label: api.KHead, Epoch: most, Life: most, Num: most, Peer: most})
}

// wrongIDs are ids that may not be.
func wrongIDs() []api.KeyID {
	out := []api.KeyID{{}, {Label: 7}, {Label: -1}, {Label: math.MaxInt}}
	for _, n := range []int{-1, most + 1, math.MinInt, math.MaxInt} {
		for i := range 6 {
			id := someID()
			field := []*int{&id.Label, &id.Epoch, &id.Life, &id.Num, &id.Side, &id.Peer}[i]
			*field = n
			out = append(out, id)
		}
	}
	id := someID()
	id.Side = 2
	return append(out, id)
}

// wrongNumbers have no nonce.
func wrongNumbers() []int { return []int{-1, -most, math.MinInt, most + 1, math.MaxInt} }

// both does something with a new box of each kind.
func both(t *testing.T, do func(t *testing.T, b *box.Box)) {
	t.Helper()
	t.Run("real", func(t *testing.T) { do(t, box.New([]byte("secret"), false)) })
	t.Run("ideal", func(t *testing.T) { do(t, box.New([]byte("secret"), true)) })
}

// seal is what a box makes of what may be sealed.
func seal(t *testing.T, b *box.Box, id api.KeyID, n int, ad, text []byte) []byte {
	t.Helper()
	sealed, e := b.Seal(id, n, ad, text)
	if e != api.OK || len(sealed) != len(text)+16 {
		t.Fatalf("%v, %d, %d bytes beside %d: %d, %d bytes", id, n, len(text), len(ad), e, len(sealed))
	}
	return sealed
}

// mark is what a box tells of what may be marked.
func mark(t *testing.T, b *box.Box, id api.KeyID, text []byte) []byte {
	t.Helper()
	m, e := b.Mark(id, text)
	if e != api.OK || len(m) != 32 {
		t.Fatalf("%v, %d bytes: %d, %x", id, len(text), e, m)
	}
	return m
}

// noSeal asks that nothing is sealed, and nothing counted.
func noSeal(t *testing.T, b *box.Box, id api.KeyID, n int, ad, text []byte, want api.Errno) {
	t.Helper()
	sealed, repeats := b.Sealed(), b.Repeats()
	if got, e := b.Seal(id, n, ad, text); e != want || len(got) != 0 {
		t.Errorf("%v, %d, %d bytes beside %d: %d, %d bytes, want %d", id, n, len(text), len(ad), e, len(got), want)
	}
	if b.Sealed() != sealed || b.Repeats() != repeats {
		t.Errorf("behind an error: %d sealed, %d repeats, ahead %d, %d", b.Sealed(), b.Repeats(), sealed, repeats)
	}
}

// opens asks that what is sealed is opened as a text.
func opens(t *testing.T, b *box.Box, id api.KeyID, n int, ad, sealed, text []byte) {
	t.Helper()
	if got, e := b.Open(id, n, ad, sealed); e != api.OK || !bytes.Equal(got, text) {
		t.Errorf("%v, %d, %d bytes beside %d: %d, %d bytes, want %d", id, n, len(sealed), len(ad), e, len(got), len(text))
	}
}

// refuses asks that nothing is opened.
func refuses(t *testing.T, what string, b *box.Box, id api.KeyID, n int, ad, sealed []byte, want api.Errno) {
	t.Helper()
	if got, e := b.Open(id, n, ad, sealed); e != want || len(got) != 0 {
		t.Errorf("%s: %v, %d, %d bytes beside %d: %d, %d bytes, want %d", what, id, n, len(sealed), len(ad), e, len(got), want)
	}
}

// counts asks how many were sealed, and how many again.
func counts(t *testing.T, b *box.Box, sealed, repeats int) {
	t.Helper()
	if b.Sealed() != sealed || b.Repeats() != repeats {
		t.Errorf("%d sealed, %d repeats, want %d, %d", b.Sealed(), b.Repeats(), sealed, repeats)
	}
}

// P8.1, P8.2: texts of many lengths are sealed, sixteen bytes longer, and opened.
func TestBack(t *testing.T) {
	rnd := rand.New(rand.NewSource(1))
	both(t, func(t *testing.T, b *box.Box) {
		for i, n := range []int{0, 1, 2, 15, 16, 17, 64, 1000, api.MaxSealed - 1, api.MaxSealed} {
			for j, m := range []int{0, 1, 17, api.MaxSealed} {
				ad, text := make([]byte, m), make([]byte, n)
				rnd.Read(ad)
				rnd.Read(text)
				sealed := seal(t, b, someID(), i*10+j, ad, text)
				opens(t, b, someID(), i*10+j, ad, sealed, text)
			}
		}
		counts(t, b, 40, 0)
	})
}

// P8.1, P8.2, P8.3: every id and number that may be is taken, at the bounds too.
func TestIDsThatMayBe(t *testing.T) {
	both(t, func(t *testing.T, b *box.Box) {
		for label := 1; label <= 6; label++ {
			for at := range 16 {
				bound := func(bit int) int { return at >> bit & 1 * most }
				id := api.KeyID{Label: label, Epoch: bound(0), Life: bound(1), Num: bound(2), Side: at & 1, Peer: bound(3)}
				for _, n := range []int{0, 1, most - 1, most} {
					opens(t, b, id, n, nil, seal(t, b, id, n, nil, []byte("text")), []byte("text"))
				}
				if !b.Check(id, []byte("text"), mark(t, b, id, []byte("text"))) {
					t.Errorf("%v: a mark is not right", id)
				}
			}
		}
		counts(t, b, 6*16*4, 0)
	})
}

// P8.1, P8.2, P8.3: an id or a number that may not be is told ahead of all else.
func TestWrongIDs(t *testing.T) {
	long := make([]byte, api.MaxSealed+17)
	both(t, func(t *testing.T, b *box.Box) {
		sealed := seal(t, b, someID(), 0, nil, []byte("text"))
		try := func(id api.KeyID, n int) {
			for _, c := range [][2][]byte{{nil, nil}, {nil, []byte("text")}, {long, nil}, {nil, long}, {long, long}, {nil, sealed}} {
				noSeal(t, b, id, n, c[0], c[1], api.EARG)
				refuses(t, "a wrong id or number", b, id, n, c[0], c[1], api.EARG)
			}
		}
		for _, id := range wrongIDs() {
			try(id, 0)
			try(id, -1)
			if m, e := b.Mark(id, []byte("text")); e != api.EARG || len(m) != 0 {
				t.Errorf("%v: %d, %x", id, e, m)
			}
			right, _ := b.Mark(someID(), []byte("text"))
			for _, m := range [][]byte{nil, {}, right, make([]byte, 32)} {
				if b.Check(id, []byte("text"), m) || b.Check(id, nil, m) {
					t.Errorf("%v: %x is right", id, m)
				}
			}
		}
		for _, n := range wrongNumbers() {
			try(someID(), n)
		}
	})
}

// P8.1: a text, and what goes beside it, has at most 65536 bytes.
func TestTooLong(t *testing.T) {
	room := make([]byte, 4*api.MaxSealed)
	both(t, func(t *testing.T, b *box.Box) {
		for _, c := range [][2]int{
			{0, api.MaxSealed + 1}, {api.MaxSealed + 1, 0}, {api.MaxSealed, api.MaxSealed + 1}, {api.MaxSealed + 1, api.MaxSealed},
			{api.MaxSealed + 1, api.MaxSealed + 1}, {0, len(room)}, {len(room), 0},
		} {
			noSeal(t, b, someID(), 0, room[:c[0]], room[:c[1]], api.ELONG)
		}
		counts(t, b, 0, 0)
		opens(t, b, someID(), 0, room[:api.MaxSealed], seal(t, b, someID(), 0, room[:api.MaxSealed], room[:api.MaxSealed]), room[:api.MaxSealed])
		counts(t, b, 1, 0)
	})
}

// P8.2: fewer than 16 bytes are ESHORT, whatever goes beside; more than 65552, or more than 65536 beside, are ELONG; else EAUTH.
func TestOpenBounds(t *testing.T) {
	room := make([]byte, 4*api.MaxSealed)
	both(t, func(t *testing.T, b *box.Box) {
		for _, c := range []struct {
			ad, sealed int
			want       api.Errno
		}{
			{0, 0, api.ESHORT}, {0, 1, api.ESHORT}, {0, 8, api.ESHORT}, {0, 15, api.ESHORT},
			{api.MaxSealed, 15, api.ESHORT}, {api.MaxSealed + 1, 15, api.ESHORT}, {api.MaxSealed + 1, 0, api.ESHORT},
			{0, 16, api.EAUTH}, {0, 17, api.EAUTH}, {api.MaxSealed, 16, api.EAUTH}, {0, 65552, api.EAUTH}, {api.MaxSealed, 65552, api.EAUTH},
			{api.MaxSealed + 1, 16, api.ELONG}, {0, 65553, api.ELONG}, {api.MaxSealed + 1, 65552, api.ELONG},
			{api.MaxSealed, 65553, api.ELONG}, {api.MaxSealed + 1, 65553, api.ELONG}, {0, len(room), api.ELONG}, {len(room), 16, api.ELONG},
		} {
			refuses(t, "of a new box", b, someID(), 0, room[:c.ad], room[:c.sealed], c.want)
		}
		refuses(t, "nil", b, someID(), 0, nil, nil, api.ESHORT)
		empty := seal(t, b, someID(), 0, nil, nil)
		refuses(t, "a byte short", b, someID(), 0, nil, empty[:15], api.ESHORT)
		opens(t, b, someID(), 0, nil, empty, nil)
	})
}

// P8.2, P8.4: with another id, another number, or other bytes beside, nothing is opened.
func TestOpenOtherwise(t *testing.T) {
	both(t, func(t *testing.T, b *box.Box) {
		ad, text := []byte("beside"), []byte("a text that is sealed")
		sealed := seal(t, b, someID(), 7, ad, text)
		for _, id := range otherIDs() {
			refuses(t, "another id", b, id, 7, ad, sealed, api.EAUTH)
		}
		for _, n := range []int{0, 1, 6, 8, 7 + 1<<32, most} {
			refuses(t, "another number", b, someID(), n, ad, sealed, api.EAUTH)
		}
		for _, other := range []string{"", "b", "besid", "beside\x00", "Beside", "a text that is sealed"} {
			refuses(t, "other bytes beside", b, someID(), 7, []byte(other), sealed, api.EAUTH)
		}
		opens(t, b, someID(), 7, ad, sealed, text)
	})
}

// P8.2, P8.4: with any one bit turned, a byte more, or fewer, nothing is opened.
func TestOpenOtherBytes(t *testing.T) {
	both(t, func(t *testing.T, b *box.Box) {
		for n, text := range []string{"", "t", "a text that is sealed"} {
			sealed := seal(t, b, someID(), n, nil, []byte(text))
			for bit := range 8 * len(sealed) {
				other := bytes.Clone(sealed)
				other[bit/8] ^= 1 << (bit % 8)
				refuses(t, "one bit turned", b, someID(), n, nil, other, api.EAUTH)
			}
			for m := 16; m < len(sealed); m++ {
				refuses(t, "cut behind", b, someID(), n, nil, sealed[:m], api.EAUTH)
			}
			for _, c := range []byte{0, 1, sealed[len(sealed)-1]} {
				refuses(t, "a byte more", b, someID(), n, nil, append(bytes.Clone(sealed), c), api.EAUTH)
			}
			refuses(t, "a byte ahead", b, someID(), n, nil, append([]byte{0}, sealed...), api.EAUTH)
			opens(t, b, someID(), n, nil, sealed, []byte(text))
		}
	})
}

// P8.1: Repeats counts just those with an id and a number that one ahead was with, whatever the texts and what goes beside.
func TestRepeats(t *testing.T) {
	both(t, func(t *testing.T, b *box.Box) {
		counts(t, b, 0, 0)
		seal(t, b, someID(), 7, nil, []byte("text"))
		counts(t, b, 1, 0)
		seal(t, b, someID(), 7, nil, []byte("text"))
		counts(t, b, 2, 1)
		seal(t, b, someID(), 7, []byte("beside"), []byte("another"))
		counts(t, b, 3, 2)
		seal(t, b, someID(), 8, nil, []byte("text"))
		counts(t, b, 4, 2)
		for _, id := range otherIDs() {
			seal(t, b, id, 7, nil, []byte("text"))
		}
		counts(t, b, 4+len(otherIDs()), 2)
		for _, id := range otherIDs() {
			seal(t, b, id, 7, nil, nil)
		}
		counts(t, b, 4+2*len(otherIDs()), 2+len(otherIDs()))
	})
}

// P8.1: nothing but sealing is counted, and of that only what went well.
func TestWhatIsNotCounted(t *testing.T) {
	both(t, func(t *testing.T, b *box.Box) {
		sealed := seal(t, b, someID(), 0, nil, []byte("text"))
		opens(t, b, someID(), 0, nil, sealed, []byte("text"))
		refuses(t, "another number", b, someID(), 1, nil, sealed, api.EAUTH)
		b.Check(someID(), nil, mark(t, b, someID(), nil))
		noSeal(t, b, someID(), 1, nil, make([]byte, api.MaxSealed+1), api.ELONG)
		noSeal(t, b, someID(), 0, nil, make([]byte, api.MaxSealed+1), api.ELONG)
		noSeal(t, b, api.KeyID{}, 0, nil, nil, api.EARG)
		counts(t, b, 1, 0)
		seal(t, b, someID(), 1, nil, nil)
		counts(t, b, 2, 0)
	})
}

// P8.1: sealing and counting in any order is as a list has it that is gone through.
func TestCountsOfMany(t *testing.T) {
	type use struct {
		id api.KeyID
		n  int
	}
	both(t, func(t *testing.T, b *box.Box) {
		rnd := rand.New(rand.NewSource(2))
		var uses []use
		repeats := 0
		for range 300 {
			u := use{otherIDs()[rnd.Intn(8)], rnd.Intn(15)}
			for _, other := range uses {
				if other == u {
					repeats++
					break
				}
			}
			uses = append(uses, u)
			seal(t, b, u.id, u.n, nil, nil)
			counts(t, b, len(uses), repeats)
		}
		if repeats == 0 {
			t.Error("no repeats")
		}
	})
}

// P8.2: what was sealed with one id and one number is opened all the same, each as it was.
func TestRepeatsAreOpened(t *testing.T) {
	both(t, func(t *testing.T, b *box.Box) {
		texts := []string{"first", "other", "longer than these", "", "last "}
		var all [][]byte
		for _, text := range texts {
			all = append(all, seal(t, b, someID(), 3, []byte("beside"), []byte(text)))
		}
		for i, text := range texts {
			opens(t, b, someID(), 3, []byte("beside"), all[i], []byte(text))
		}
		counts(t, b, len(texts), len(texts)-1)
	})
}

// P8.3: a mark is right of its id and text alone.
func TestMarks(t *testing.T) {
	both(t, func(t *testing.T, b *box.Box) {
		for _, n := range []int{0, 1, 31, 32, 100, api.MaxSealed, api.MaxSealed + 1, 1 << 20} {
			text := bytes.Repeat([]byte{7}, n)
			m := mark(t, b, someID(), text)
			if !b.Check(someID(), text, m) || !b.Check(someID(), bytes.Clone(text), bytes.Clone(m)) {
				t.Errorf("%d bytes: not right", n)
			}
			for _, other := range [][]byte{append(bytes.Clone(text), 7), append(bytes.Clone(text), 0), append([]byte{0}, text...), text[:max(n-1, 0)]} {
				if b.Check(someID(), other, m) && len(other) != n {
					t.Errorf("%d bytes: right of %d", n, len(other))
				}
			}
			for _, id := range append(otherIDs(), wrongIDs()...) {
				if n < 1000 && b.Check(id, text, m) {
					t.Errorf("%d bytes: right of %v", n, id)
				}
			}
		}
	})
}

// P8.3: another mark is not right: none, one bit turned, a byte more or fewer, another text's.
func TestOtherMarks(t *testing.T) {
	both(t, func(t *testing.T, b *box.Box) {
		text := []byte("a text that is marked")
		m := mark(t, b, someID(), text)
		others := [][]byte{nil, {}, {0}, append(bytes.Clone(m), 0), append([]byte{0}, m...), append(bytes.Clone(m), m...), mark(t, b, someID(), []byte("another"))}
		for n := range m {
			others = append(others, m[:n], m[n+1:])
		}
		for bit := range 256 {
			turned := bytes.Clone(m)
			turned[bit/8] ^= 1 << (bit % 8)
			others = append(others, turned)
		}
		for _, other := range others {
			if b.Check(someID(), text, other) {
				t.Errorf("%x is right, for %x", other, m)
			}
		}
		for bit := range 8 * len(text) {
			turned := bytes.Clone(text)
			turned[bit/8] ^= 1 << (bit % 8)
			if b.Check(someID(), turned, m) {
				t.Errorf("right of %q", turned)
			}
		}
		if !b.Check(someID(), text, m) {
			t.Error("not right any more")
		}
	})
}

// P8.3, P8.4: the marks of one text, told twice, are both right.
func TestMarkTwice(t *testing.T) {
	both(t, func(t *testing.T, b *box.Box) {
		first := mark(t, b, someID(), []byte("text"))
		mark(t, b, someID(), []byte("between"))
		second := mark(t, b, someID(), []byte("text"))
		if !b.Check(someID(), []byte("text"), first) || !b.Check(someID(), []byte("text"), second) {
			t.Errorf("%x, %x: not both right", first, second)
		}
		if b.Check(someID(), []byte("between"), first) || b.Check(someID(), []byte("between"), second) {
			t.Errorf("%x, %x: right of another text", first, second)
		}
	})
}

// P8.3: nothing was sealed or marked yet: no mark is right, nothing is opened.
func TestNewBox(t *testing.T) {
	both(t, func(t *testing.T, b *box.Box) {
		counts(t, b, 0, 0)
		for n := range 40 {
			if b.Check(someID(), nil, make([]byte, n)) || b.Check(someID(), []byte{0}, make([]byte, n)) {
				t.Errorf("%d bytes 0 are right", n)
			}
			if n >= 16 {
				refuses(t, "bytes 0", b, someID(), 0, nil, make([]byte, n), api.EAUTH)
			}
		}
	})
}

// P8.3, rule 6: a box that New did not make.
func TestNotMade(t *testing.T) {
	long := make([]byte, api.MaxSealed+17)
	for name, b := range map[string]*box.Box{"nil": nil, "new": new(box.Box), "zero": {}} {
		for _, id := range append(wrongIDs(), someID()) {
			for _, text := range [][]byte{nil, {1}, make([]byte, 16), make([]byte, 32), long} {
				for _, n := range append(wrongNumbers(), 0, most) {
					noSeal(t, b, id, n, text, text, api.ENIL)
					refuses(t, name, b, id, n, text, text, api.ENIL)
				}
				if m, e := b.Mark(id, text); e != api.ENIL || len(m) != 0 {
					t.Errorf("%s: %d, %x", name, e, m)
				}
				if b.Check(id, text, nil) || b.Check(id, text, make([]byte, 32)) {
					t.Errorf("%s: a mark is right", name)
				}
			}
		}
		counts(t, b, 0, 0)
	}
}

// Rule 3: nil and empty lists are one, a secret too.
func TestNilAndEmpty(t *testing.T) {
	both(t, func(t *testing.T, b *box.Box) {
		opens(t, b, someID(), 0, []byte{}, seal(t, b, someID(), 0, nil, nil), nil)
		opens(t, b, someID(), 1, nil, seal(t, b, someID(), 1, []byte{}, []byte{}), []byte{})
		if !b.Check(someID(), nil, mark(t, b, someID(), []byte{})) || !b.Check(someID(), []byte{}, mark(t, b, someID(), nil)) {
			t.Error("marks of nil and of an empty text are unlike")
		}
	})
	for _, ideal := range []bool{true, false} {
		a, b := box.New(nil, ideal), box.New([]byte{}, ideal)
		if x, y := seal(t, a, someID(), 0, nil, []byte("text")), seal(t, b, someID(), 0, nil, []byte("text")); !bytes.Equal(x, y) {
			t.Errorf("ideal %v: %x, %x", ideal, x, y)
		}
	}
}

// Rule 4: what is handed in stays as it is, its spare room too.
func TestNothingHandedInIsChanged(t *testing.T) {
	both(t, func(t *testing.T, b *box.Box) {
		full := bytes.Repeat([]byte{0xee}, 100)
		ad, text := bytes.Clone(full), bytes.Clone(full)
		sealed := append(seal(t, b, someID(), 0, ad[:20], text[:30]), full...)
		marked := append(mark(t, b, someID(), text[:30]), full...)
		keepSealed, keepMarked := bytes.Clone(sealed), bytes.Clone(marked)
		opens(t, b, someID(), 0, ad[:20], sealed[:46], full[:30])
		if !b.Check(someID(), text[:30], marked[:32]) {
			t.Error("a mark is not right")
		}
		if !bytes.Equal(ad, full) || !bytes.Equal(text, full) || !bytes.Equal(sealed, keepSealed) || !bytes.Equal(marked, keepMarked) {
			t.Errorf("%x, %x, %x, %x", ad, text, sealed, marked)
		}
	})
}

// Rule 4: what is handed in is not kept, and what is told is new.
func TestNothingHandedInIsKept(t *testing.T) {
	for _, ideal := range []bool{true, false} {
		secret := []byte("secret")
		b := box.New(secret, ideal)
		ad, text, marked := []byte("beside"), []byte("text"), []byte("marked")
		sealed, m := seal(t, b, someID(), 0, ad, text), mark(t, b, someID(), marked)
		keep, keepMark := bytes.Clone(sealed), bytes.Clone(m)
		for _, x := range [][]byte{secret, ad, text, marked, sealed, m} {
			clear(x)
		}
		for range 2 {
			got, e := b.Open(someID(), 0, []byte("beside"), keep)
			if e != api.OK || string(got) != "text" {
				t.Fatalf("ideal %v: %d, %q", ideal, e, got)
			}
			clear(got)
		}
		if !b.Check(someID(), []byte("marked"), keepMark) {
			t.Errorf("ideal %v: a mark is not right any more", ideal)
		}
	}
}

// Rule 5: boxes know nothing of each other.
func TestBoxesApart(t *testing.T) {
	for _, ideal := range []bool{true, false} {
		a, b := box.New([]byte("secret"), ideal), box.New([]byte("secret"), ideal)
		sealed, m := seal(t, a, someID(), 0, nil, []byte("text")), mark(t, a, someID(), []byte("text"))
		counts(t, b, 0, 0)
		got, e := b.Open(someID(), 0, nil, sealed)
		if ideal && (e != api.EAUTH || len(got) != 0) || !ideal && (e != api.OK || string(got) != "text") {
			t.Errorf("ideal %v: another box of the secret opens: %d, %q", ideal, e, got)
		}
		if b.Check(someID(), []byte("text"), m) == ideal {
			t.Errorf("ideal %v: the mark of another box of the secret", ideal)
		}
		seal(t, b, someID(), 0, nil, nil)
		counts(t, a, 1, 0)
		counts(t, b, 1, 0)
	}
}
