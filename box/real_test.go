package box_test

import (
	"bytes"
	"crypto/hkdf"
	"crypto/hmac"
	"crypto/sha256"
	"encoding/binary"
	"math/rand"
	"testing"

	"intaglio/aead"
	"intaglio/api"
	"intaglio/box"
)

// plainKey is an id's key, by the chapters' words and the library.
func plainKey(t *testing.T, secret []byte, id api.KeyID) [32]byte {
	t.Helper()
	var name []byte
	for _, n := range []int{id.Label, id.Epoch, id.Life, id.Num, id.Side, id.Peer} {
		name = binary.BigEndian.AppendUint64(name, uint64(n))
	}
	key, err := hkdf.Key(sha256.New, secret, []byte("intaglio"), string(name), 32)
	if err != nil {
		t.Fatal(err)
	}
	return [32]byte(key)
}

// plainNonce is a number's nonce.
func plainNonce(n int) [12]byte {
	var nonce [12]byte
	binary.BigEndian.PutUint64(nonce[4:], uint64(n))
	return nonce
}

// randomBytes are so many.
func randomBytes(rnd *rand.Rand, n int) []byte {
	b := make([]byte, n)
	rnd.Read(b)
	return b
}

// P8.1, P8.2: a real box seals by aead, with the id's key and the number's nonce, and opens what anybody sealed so.
func TestRealIsAead(t *testing.T) {
	rnd := rand.New(rand.NewSource(3))
	for i := range 100 {
		secret := randomBytes(rnd, i)
		b := box.New(secret, false)
		id := api.KeyID{Label: 1 + i%6, Epoch: rnd.Intn(most), Life: rnd.Intn(most), Num: rnd.Intn(most), Side: i % 2, Peer: rnd.Intn(most)}
		n := rnd.Intn(most + 1)
		ad, text := randomBytes(rnd, rnd.Intn(100)), randomBytes(rnd, rnd.Intn(300))
		want, e := aead.Seal(plainKey(t, secret, id), plainNonce(n), ad, text)
		if e != api.OK {
			t.Fatal(e)
		}
		opens(t, b, id, n, ad, want, text)
		if got := seal(t, b, id, n, ad, text); !bytes.Equal(got, want) {
			t.Errorf("%v, %d: %x, want %x", id, n, got, want)
		}
	}
}

// P8.3: a real box marks by the sum with the id's key, and finds a mark right that anybody reckoned so.
func TestRealIsHmac(t *testing.T) {
	rnd := rand.New(rand.NewSource(4))
	for i := range 100 {
		secret := randomBytes(rnd, i)
		b := box.New(secret, false)
		id := api.KeyID{Label: 1 + i%6, Epoch: rnd.Intn(most), Life: rnd.Intn(most), Num: rnd.Intn(most), Side: i % 2, Peer: rnd.Intn(most)}
		text := randomBytes(rnd, rnd.Intn(300))
		key := plainKey(t, secret, id)
		h := hmac.New(sha256.New, key[:])
		h.Write(text)
		want := h.Sum(nil)
		if !b.Check(id, text, want) {
			t.Errorf("%v: a mark that was not told is not right", id)
		}
		if got := mark(t, b, id, text); !bytes.Equal(got, want) {
			t.Errorf("%v: %x, want %x", id, got, want)
		}
	}
}

// P8.1, P8.3, rule 5: what a real box tells hangs on nothing that came ahead.
func TestRealTellsTheSameAgain(t *testing.T) {
	b := box.New([]byte("secret"), false)
	sealed, m := seal(t, b, someID(), 5, []byte("beside"), []byte("text")), mark(t, b, someID(), []byte("text"))
	for n := range 10 {
		seal(t, b, someID(), n, nil, []byte("between"))
		mark(t, b, someID(), []byte("between"))
		if got := seal(t, b, someID(), 5, []byte("beside"), []byte("text")); !bytes.Equal(got, sealed) {
			t.Errorf("%x, ahead %x", got, sealed)
		}
		if got := mark(t, b, someID(), []byte("text")); !bytes.Equal(got, m) {
			t.Errorf("%x, ahead %x", got, m)
		}
	}
}

// P8.2, P8.3: by another secret nothing is opened, and no mark is right.
func TestAnotherSecret(t *testing.T) {
	b := box.New([]byte("secret"), false)
	sealed, m := seal(t, b, someID(), 5, nil, []byte("text")), mark(t, b, someID(), []byte("text"))
	for _, secret := range []string{"", "s", "Secret", "secrets", "secret\x00\x00"} {
		other := box.New([]byte(secret), false)
		refuses(t, "another secret", other, someID(), 5, nil, sealed, api.EAUTH)
		if other.Check(someID(), []byte("text"), m) {
			t.Errorf("%q: a mark is right", secret)
		}
	}
}

// P8.3: of an id that may not be no mark is right, not even that by a key of bytes 0.
func TestNoMarkOfWrongIDs(t *testing.T) {
	b := box.New([]byte("secret"), false)
	for _, key := range [][]byte{nil, make([]byte, 32), []byte("secret")} {
		h := hmac.New(sha256.New, key)
		h.Write([]byte("text"))
		for _, id := range wrongIDs() {
			if b.Check(id, []byte("text"), h.Sum(nil)) {
				t.Errorf("%v: the mark by %x is right", id, key)
			}
		}
	}
}
