package keys_test

import (
	"bytes"
	"crypto/hkdf"
	"crypto/sha256"
	"encoding/binary"
	"math"
	"math/rand"
	"testing"

	"intaglio/api"
	"intaglio/keys"
	"intaglio/mac"
)

// libraryKey is an id's key by the library.
func libraryKey(t *testing.T, secret []byte, id api.KeyID) [32]byte {
	t.Helper()
	key, err := hkdf.Key(sha256.New, secret, []byte("intaglio"), string(plainBytes(id)), 32)
	if err != nil {
		t.Fatal(err)
	}
	return [32]byte(key)
}

// P7.2: a key is 32 bytes that are expanded of the extract of the secret, by the id's bytes.
func TestDerive(t *testing.T) {
	rnd := rand.New(rand.NewSource(1))
	for n := range 150 {
		secret := make([]byte, n)
		rnd.Read(secret)
		id := api.KeyID{Label: 1 + n%6, Epoch: rnd.Intn(most), Life: rnd.Intn(most), Num: rnd.Intn(most), Side: n % 2, Peer: rnd.Intn(most)}
		got, ok := keys.Derive(secret, id)
		root := mac.Extract([]byte("intaglio"), secret)
		plain, _ := mac.Expand(root[:], plainBytes(id), 32)
		if library := libraryKey(t, secret, id); !ok || !bytes.Equal(got[:], plain) || got != library {
			t.Fatalf("%x, %v: %x, %v, by the chapter %x, by the library %x", secret, id, got, ok, plain, library)
		}
	}
}

// P7.2, rule 3: an empty secret has keys too, nil or not; each bit of a secret counts.
func TestDeriveOfOtherSecrets(t *testing.T) {
	none, ok := keys.Derive(nil, someID())
	empty, also := keys.Derive([]byte{}, someID())
	if !ok || !also || none != empty || none != libraryKey(t, []byte{}, someID()) {
		t.Errorf("no secret: %x, %v; an empty one: %x, %v", none, ok, empty, also)
	}
	secret := []byte("a secret of 21 bytes.")
	whole, _ := keys.Derive(secret, someID())
	for bit := range 8 * len(secret) {
		secret[bit/8] ^= 1 << (bit % 8)
		if got, ok := keys.Derive(secret, someID()); !ok || got == whole {
			t.Errorf("bit %d turned: %v, the same key", bit, ok)
		}
		secret[bit/8] ^= 1 << (bit % 8)
	}
}

// P7.2: a nonce is four bytes 0 and the number's eight; there is none below 0, or above 2^40.
func TestNonce(t *testing.T) {
	for _, n := range []int{0, 1, 2, 255, 256, 258, 65535, 1<<32 - 1, 1 << 32, 0x0102030405, most - 1, most} {
		var want [12]byte
		binary.BigEndian.PutUint64(want[4:], uint64(n))
		if got, ok := keys.Nonce(n); !ok || got != want {
			t.Errorf("%d: %x, %v, want %x", n, got, ok, want)
		}
	}
	for _, n := range []int{-1, -2, -most, math.MinInt, beyond, 1 << 41, 1<<62 + 1, math.MaxInt} {
		if got, ok := keys.Nonce(n); ok || got != [12]byte{} {
			t.Errorf("%d: %x, %v", n, got, ok)
		}
	}
}

// P7.4: unlike numbers have unlike nonces.
func TestUnlikeNonces(t *testing.T) {
	seen := map[[12]byte]int{}
	try := func(n int) {
		nonce, ok := keys.Nonce(n)
		if other, used := seen[nonce]; !ok || used {
			t.Fatalf("%d: %x, %v, that is of %d too", n, nonce, ok, other)
		}
		seen[nonce] = n
	}
	for n := range 3000 {
		try(n)
		try(most - n)
	}
	for bit := 12; bit < 40; bit++ {
		try(1 << bit)
		try(1<<bit + 1)
	}
}

// P7.3: a counter goes on by one up to its most.
func TestNext(t *testing.T) {
	for _, c := range []struct {
		n, most, want int
		e             api.Errno
	}{
		{0, 1, 1, api.OK}, {0, most, 1, api.OK}, {4, 5, 5, api.OK}, {most - 1, most, most, api.OK},
		{math.MaxInt - 1, math.MaxInt, math.MaxInt, api.OK}, {41, math.MaxInt, 42, api.OK},
		{0, 0, 0, api.ESPENT}, {5, 5, 0, api.ESPENT}, {6, 5, 0, api.ESPENT}, {most, most, 0, api.ESPENT}, {beyond, most, 0, api.ESPENT},
		{0, -1, 0, api.ESPENT}, {0, math.MinInt, 0, api.ESPENT}, {7, -7, 0, api.ESPENT},
		{math.MaxInt, math.MaxInt, 0, api.ESPENT}, {math.MaxInt, math.MinInt, 0, api.ESPENT}, {math.MaxInt, 0, 0, api.ESPENT},
		{-1, 5, 0, api.EARG}, {-1, 0, 0, api.EARG}, {-1, -1, 0, api.EARG}, {-1, -5, 0, api.EARG}, {-5, -1, 0, api.EARG},
		{math.MinInt, math.MaxInt, 0, api.EARG}, {math.MinInt, math.MinInt, 0, api.EARG},
	} {
		if got, e := keys.Next(c.n, c.most); got != c.want || e != c.e {
			t.Errorf("behind %d, at most %d: %d, %d, want %d, %d", c.n, c.most, got, e, c.want, c.e)
		}
	}
}

// P7.4: a counter that goes on as long as it can tells each number once, ends at its most, and stays there.
func TestCountersEnd(t *testing.T) {
	for limit := range 50 {
		n := 0
		for steps := 1; ; steps++ {
			next, e := keys.Next(n, limit)
			if e == api.ESPENT && next == 0 && n == limit {
				break
			}
			if e != api.OK || next != steps || next > limit {
				t.Fatalf("at most %d, step %d: %d, %d", limit, steps, next, e)
			}
			n = next
		}
		if next, e := keys.Next(n, limit); e != api.ESPENT || next != 0 {
			t.Errorf("at most %d, asked again: %d, %d", limit, next, e)
		}
	}
}

// Rule 4: a secret stays as it is, its spare room too, and is not kept.
func TestMemoryOfSecrets(t *testing.T) {
	room := bytes.Repeat([]byte{0xee}, 100)
	for _, n := range []int{0, 1, 32, 64, 65, 99} {
		key, _ := keys.Derive(room[:n], someID())
		if !bytes.Equal(room, bytes.Repeat([]byte{0xee}, 100)) {
			t.Fatalf("%d bytes: %x", n, room)
		}
		if key != libraryKey(t, room[:n], someID()) {
			t.Errorf("%d bytes: another key", n)
		}
	}
}
