package aead_test

import (
	"bytes"
	"encoding/binary"
	"encoding/hex"
	"math/rand"
	"testing"

	"intaglio/aead"
	"intaglio/api"
	"intaglio/chacha"
	"intaglio/poly"
)

func unhex(t *testing.T, s string) []byte {
	t.Helper()
	b, err := hex.DecodeString(s)
	if err != nil {
		t.Fatal(err)
	}
	return b
}

func randomBytes(rnd *rand.Rand, n int) []byte {
	b := make([]byte, n)
	rnd.Read(b)
	return b
}

func someKey() [32]byte { return [32]byte(randomBytes(rand.New(rand.NewSource(1)), 32)) }

func someNonce() [12]byte { return [12]byte(randomBytes(rand.New(rand.NewSource(2)), 12)) }

// plainMark is the mark by the chapter's words, of one text that is laid whole.
func plainMark(key [32]byte, nonce [12]byte, ad, hidden []byte) [16]byte {
	var text []byte
	for _, b := range [][]byte{ad, hidden} {
		text = append(text, b...)
		for len(text)%16 != 0 {
			text = append(text, 0)
		}
	}
	for _, b := range [][]byte{ad, hidden} {
		text = binary.LittleEndian.AppendUint64(text, uint64(len(b)))
	}
	block := chacha.Block(key, 0, nonce)
	return poly.Sum([32]byte(block[:32]), text)
}

// seal is what Seal makes of what may be sealed.
func seal(t *testing.T, key [32]byte, nonce [12]byte, ad, text []byte) []byte {
	t.Helper()
	sealed, e := aead.Seal(key, nonce, ad, text)
	if e != api.OK || len(sealed) != len(text)+api.Tag {
		t.Fatalf("%d bytes sealed, %d beside: %d, %d bytes", len(text), len(ad), e, len(sealed))
	}
	return sealed
}

// opens asks that what is sealed hides a text.
func opens(t *testing.T, key [32]byte, nonce [12]byte, ad, sealed, text []byte) {
	t.Helper()
	got, e := aead.Open(key, nonce, ad, sealed)
	if e != api.OK || !bytes.Equal(got, text) {
		t.Errorf("%d bytes opened, %d beside: %d, %x, want %x", len(sealed), len(ad), e, got, text)
	}
}

// refuses asks that what is sealed is not opened, and nothing of it told.
func refuses(t *testing.T, what string, key [32]byte, nonce [12]byte, ad, sealed []byte, want api.Errno) {
	t.Helper()
	if got, e := aead.Open(key, nonce, ad, sealed); e != want || len(got) != 0 {
		t.Errorf("%s: %d, %x, want %d", what, e, got, want)
	}
}

type standard struct{ name, key, nonce, ad, text, sealed string }

// standards are RFC 8439, 2.8.2 and A.5.
func standards() []standard {
	return []standard{{
		"2.8.2",
		"808182838485868788898a8b8c8d8e8f909192939495969798999a9b9c9d9e9f",
		"070000004041424344454647",
		"50515253c0c1c2c3c4c5c6c7",
		"Ladies and Gentlemen of the class of '99: If I could offer you only one tip for the future, sunscreen would be it.",
		"d31a8d34648e60db7b86afbc53ef7ec2a4aded51296e08fea9e2b5a736ee62d63dbea45e8ca9671282fafb69da92728b1a71de0a9e060b2905d6a5b67ecd3b3692ddbd7f2d778b8c9803aee328091b58fab324e4fad675945585808b4831d7bc3ff4def08e4b7a9de576d26586cec64b6116" +
			"1ae10b594f09e26a7e902ecbd0600691",
	}, {
		"A.5",
		"1c9240a5eb55d38af333888604f6b5f0473917c1402b80099dca5cbc207075c0",
		"000000000102030405060708",
		"f33388860000000000004e91",
		"Internet-Drafts are draft documents valid for a maximum of six months and may be updated, replaced, or obsoleted by other documents at any time. It is inappropriate to use Internet-Drafts as reference material or to cite them other than as /\u201cwork in progress./\u201d",
		"64a0861575861af460f062c79be643bd5e805cfd345cf389f108670ac76c8cb24c6cfc18755d43eea09ee94e382d26b0bdb7b73c321b0100d4f03b7f355894cf332f830e710b97ce98c8a84abd0b948114ad176e008d33bd60f982b1ff37c8559797a06ef4f0ef61c186324e2b3506383606907b6a7c02b0f9f6157b53c867e4b9166c767b804d46a59b5216cde7a4e99040c5a40433225ee282a1b0a06c523eaf4534d7f83fa1155b0047718cbc546a0d072b04b3564eea1b422273f548271a0bb2316053fa76991955ebd63159434ecebb4e466dae5a1073a6727627097a1049e617d91d361094fa68f0ff77987130305beaba2eda04df997b714d6c6f2c29a6ad5cb4022b02709b" +
			"eead9d67890cbb22392336fea1851f38",
	}}
}

// P4.1, and P2 of the whole: RFC 8439, 2.8.2 and A.5.
func TestStandards(t *testing.T) {
	for _, c := range standards() {
		key, nonce := [32]byte(unhex(t, c.key)), [12]byte(unhex(t, c.nonce))
		ad, sealed := unhex(t, c.ad), unhex(t, c.sealed)
		if got := seal(t, key, nonce, ad, []byte(c.text)); !bytes.Equal(got, sealed) {
			t.Errorf("%s: sealed %x, want %x", c.name, got, sealed)
		}
		opens(t, key, nonce, ad, sealed, []byte(c.text))
		hidden, end := sealed[:len(c.text)], sealed[len(c.text):]
		if got := aead.Mark(key, nonce, ad, hidden); !bytes.Equal(got[:], end) {
			t.Errorf("%s: mark %x, want %x", c.name, got, end)
		}
	}
}

// P4.1: a mark is of whole pieces of both, and of their lengths.
func TestMark(t *testing.T) {
	rnd := rand.New(rand.NewSource(3))
	lengths := []int{0, 1, 2, 15, 16, 17, 31, 32, 33, 64, 100, 65536, 65537, 70001}
	for _, n := range lengths {
		for _, m := range lengths {
			key, nonce := [32]byte(randomBytes(rnd, 32)), [12]byte(randomBytes(rnd, 12))
			ad, hidden := randomBytes(rnd, n), randomBytes(rnd, m)
			if got, want := aead.Mark(key, nonce, ad, hidden), plainMark(key, nonce, ad, hidden); got != want {
				t.Errorf("%d bytes beside %d: %x, want %x", n, m, got, want)
			}
		}
	}
}

// P4.1: where what is beside ends, and how many bytes 0 either ends with, makes another mark.
func TestMarkTellsPartsApart(t *testing.T) {
	all := make([]byte, 64)
	seen := map[[16]byte][2]int{}
	for n := range 33 {
		for m := range 32 {
			mark := aead.Mark(someKey(), someNonce(), all[:n], all[n:n+m])
			if other, ok := seen[mark]; ok {
				t.Errorf("%v and %v bytes have one mark", other, [2]int{n, m})
			}
			seen[mark] = [2]int{n, m}
		}
	}
}

// P4.1: what is sealed is the text, xored from the counter 1 on, and the mark behind it.
func TestSeal(t *testing.T) {
	rnd := rand.New(rand.NewSource(4))
	for _, n := range []int{0, 1, 5, 15, 16, 17, 63, 64, 65, 128, 129, 1000, api.MaxSealed} {
		for _, m := range []int{0, 1, 16, 17, api.MaxSealed} {
			ad, text := randomBytes(rnd, m), randomBytes(rnd, n)
			hidden, ok := chacha.Xor(someKey(), 1, someNonce(), text)
			mark := plainMark(someKey(), someNonce(), ad, hidden)
			got := seal(t, someKey(), someNonce(), ad, text)
			if !ok || !bytes.Equal(got, append(hidden, mark[:]...)) {
				t.Errorf("%d bytes beside %d: %x", m, n, got)
			}
		}
	}
}

// P4.1, rule 3: no text at all is sealed too, nil or empty.
func TestSealNothing(t *testing.T) {
	sealed := seal(t, someKey(), someNonce(), nil, nil)
	if !bytes.Equal(sealed, seal(t, someKey(), someNonce(), []byte{}, []byte{})) {
		t.Errorf("%x", sealed)
	}
	opens(t, someKey(), someNonce(), []byte{}, sealed, nil)
	opens(t, someKey(), someNonce(), nil, sealed, nil)
}

// P4.1: texts, and what goes beside them, have at most 65536 bytes.
func TestSealBound(t *testing.T) {
	room := make([]byte, 2*api.MaxSealed)
	for _, c := range [][2]int{
		{0, api.MaxSealed + 1}, {api.MaxSealed + 1, 0}, {api.MaxSealed, api.MaxSealed + 1},
		{api.MaxSealed + 1, api.MaxSealed}, {api.MaxSealed + 1, api.MaxSealed + 1}, {0, 2 * api.MaxSealed}, {2 * api.MaxSealed, 0},
	} {
		if sealed, e := aead.Seal(someKey(), someNonce(), room[:c[0]], room[:c[1]]); e != api.ELONG || len(sealed) != 0 {
			t.Errorf("%d bytes beside %d: %d, %d bytes", c[0], c[1], e, len(sealed))
		}
	}
}

// P4.1: what is of fewer than 16 bytes is ESHORT, also if what goes beside is too long.
func TestOpenShort(t *testing.T) {
	sealed := seal(t, someKey(), someNonce(), nil, []byte("text"))
	empty := seal(t, someKey(), someNonce(), nil, nil)
	for n := range api.Tag {
		refuses(t, "too few", someKey(), someNonce(), nil, sealed[:n], api.ESHORT)
		refuses(t, "too few of a mark", someKey(), someNonce(), nil, empty[:n], api.ESHORT)
		refuses(t, "too few, too much beside", someKey(), someNonce(), make([]byte, api.MaxSealed+1), sealed[:n], api.ESHORT)
	}
	refuses(t, "nil", someKey(), someNonce(), nil, nil, api.ESHORT)
	refuses(t, "sixteen bytes", someKey(), someNonce(), nil, sealed[:api.Tag], api.EAUTH)
}

// P4.1: what is beyond the bounds is ELONG, ahead of EAUTH, also if its mark is right.
func TestOpenLong(t *testing.T) {
	most := make([]byte, api.MaxSealed)
	for _, c := range []struct {
		ad, hidden int
		want       api.Errno
	}{
		{api.MaxSealed + 1, 0, api.ELONG}, {0, api.MaxSealed + 1, api.ELONG}, {api.MaxSealed + 1, api.MaxSealed + 1, api.ELONG},
		{api.MaxSealed, api.MaxSealed, api.EAUTH}, {0, api.MaxSealed, api.EAUTH}, {api.MaxSealed, 0, api.EAUTH},
	} {
		ad, hidden := make([]byte, c.ad), make([]byte, c.hidden)
		mark := aead.Mark(someKey(), someNonce(), ad, hidden)
		sealed := append(hidden, mark[:]...)
		if c.want == api.ELONG {
			refuses(t, "beyond, well marked", someKey(), someNonce(), ad, sealed, api.ELONG)
		}
		sealed[len(sealed)-1] ^= 1
		refuses(t, "badly marked", someKey(), someNonce(), ad, sealed, c.want)
	}
	opens(t, someKey(), someNonce(), most, seal(t, someKey(), someNonce(), most, most), most)
}

// P4.1: with any one bit turned, of what is sealed or of what goes beside, nothing is opened.
func TestOneBitTurned(t *testing.T) {
	rnd := rand.New(rand.NewSource(5))
	for _, n := range []int{0, 1, 16, 37} {
		ad, text := randomBytes(rnd, 21), randomBytes(rnd, n)
		sealed := seal(t, someKey(), someNonce(), ad, text)
		for _, b := range [][]byte{sealed, ad} {
			for bit := range 8 * len(b) {
				b[bit/8] ^= 1 << (bit % 8)
				refuses(t, "one bit turned", someKey(), someNonce(), ad, sealed, api.EAUTH)
				b[bit/8] ^= 1 << (bit % 8)
			}
		}
		opens(t, someKey(), someNonce(), ad, sealed, text)
	}
}

// P4.1: by another key or nonce nothing is opened.
func TestAnotherKeyOrNonce(t *testing.T) {
	ad, text := []byte("beside"), []byte("a text that is sealed")
	sealed := seal(t, someKey(), someNonce(), ad, text)
	for bit := range 256 {
		key := someKey()
		key[bit/8] ^= 1 << (bit % 8)
		refuses(t, "another key", key, someNonce(), ad, sealed, api.EAUTH)
	}
	for bit := range 96 {
		nonce := someNonce()
		nonce[bit/8] ^= 1 << (bit % 8)
		refuses(t, "another nonce", someKey(), nonce, ad, sealed, api.EAUTH)
	}
}

// P4.1: another text beside, or another length of what is sealed, opens nothing.
func TestOtherBytes(t *testing.T) {
	ad, text := []byte("beside"), []byte("a text that is sealed")
	sealed := seal(t, someKey(), someNonce(), ad, text)
	for _, other := range []string{"", "b", "besid", "beside\x00", "besidea", "aside", "beside\x00\x00\x00\x00\x00\x00\x00\x00\x00\x00"} {
		refuses(t, "another text beside", someKey(), someNonce(), []byte(other), sealed, api.EAUTH)
	}
	for n := api.Tag; n < len(sealed); n++ {
		refuses(t, "cut behind", someKey(), someNonce(), ad, sealed[:n], api.EAUTH)
		refuses(t, "cut ahead", someKey(), someNonce(), ad, sealed[len(sealed)-n:], api.EAUTH)
	}
	refuses(t, "a byte more", someKey(), someNonce(), ad, append(bytes.Clone(sealed), 0), api.EAUTH)
	refuses(t, "a byte ahead", someKey(), someNonce(), ad, append([]byte{0}, sealed...), api.EAUTH)
	longer := append(bytes.Clone(sealed[:len(text)]), 0)
	refuses(t, "a byte within", someKey(), someNonce(), ad, append(longer, sealed[len(text):]...), api.EAUTH)
}

// P4.2: texts are the same just if they have as many bytes, and each the same.
func TestSame(t *testing.T) {
	for n := range 40 {
		a := randomBytes(rand.New(rand.NewSource(int64(n))), n)
		if b := bytes.Clone(a); !aead.Same(a, b) || !aead.Same(a, a) {
			t.Errorf("%x: not the same as itself", a)
		}
		for bit := range 8 * n {
			b := bytes.Clone(a)
			b[bit/8] ^= 1 << (bit % 8)
			if aead.Same(a, b) || aead.Same(b, a) {
				t.Errorf("%x and %x: the same", a, b)
			}
		}
		for m := range n {
			if aead.Same(a, a[:m]) || aead.Same(a[:m], a) {
				t.Errorf("%x and its first %d bytes: the same", a, m)
			}
		}
	}
}

// P4.2, rule 3: bytes 0 behind a text count; nil and empty are one; what differs twice doesn't go out.
func TestSameEdges(t *testing.T) {
	for _, c := range []struct {
		a, b []byte
		want bool
	}{
		{nil, nil, true}, {nil, []byte{}, true}, {nil, []byte{0}, false}, {[]byte{0}, []byte{0, 0}, false},
		{[]byte{1}, []byte{1, 0}, false}, {[]byte{1}, []byte{1, 1}, false}, {make([]byte, 256), nil, false}, {make([]byte, 1<<16), nil, false},
		{[]byte{1, 2}, []byte{2, 1}, false}, {[]byte{1, 1}, []byte{2, 2}, false}, {[]byte{0x80, 0x80}, []byte{0, 0}, false},
	} {
		if aead.Same(c.a, c.b) != c.want || aead.Same(c.b, c.a) != c.want {
			t.Errorf("%x and %x: not %v", c.a, c.b, c.want)
		}
	}
}

// P4.3: what was sealed is opened.
func TestBack(t *testing.T) {
	rnd := rand.New(rand.NewSource(6))
	for range 200 {
		key, nonce := [32]byte(randomBytes(rnd, 32)), [12]byte(randomBytes(rnd, 12))
		ad, text := randomBytes(rnd, rnd.Intn(100)), randomBytes(rnd, rnd.Intn(300))
		opens(t, key, nonce, ad, seal(t, key, nonce, ad, text), text)
	}
}

// Rule 4: what is handed in stays as it is, its spare room too, and shares nothing with the answer.
func TestMemory(t *testing.T) {
	pristine := bytes.Repeat([]byte{0xee}, 64)
	ad, text := bytes.Clone(pristine), bytes.Clone(pristine)
	sealed := seal(t, someKey(), someNonce(), ad[:20], text[:30])
	keep := bytes.Clone(sealed)
	if !bytes.Equal(ad, pristine) || !bytes.Equal(text, pristine) {
		t.Errorf("behind Seal: %x, %x", ad, text)
	}
	room := append(bytes.Clone(sealed), pristine...)
	back, _ := aead.Open(someKey(), someNonce(), ad[:20], room[:len(sealed)])
	if !bytes.Equal(ad, pristine) || !bytes.Equal(room, append(bytes.Clone(keep), pristine...)) {
		t.Errorf("behind Open: %x, %x", ad, room)
	}
	aead.Mark(someKey(), someNonce(), ad[:20], text[:30])
	if !bytes.Equal(ad, pristine) || !bytes.Equal(text, pristine) {
		t.Errorf("behind Mark: %x, %x", ad, text)
	}
	for _, b := range [][]byte{ad, text, room} {
		clear(b)
	}
	if !bytes.Equal(sealed, keep) || !bytes.Equal(back, pristine[:30]) {
		t.Errorf("behind a change of what was handed in: %x, %x", sealed, back)
	}
}
