package mac_test

import (
	"bytes"
	"crypto/hmac"
	"crypto/sha256"
	"encoding/hex"
	"math/rand"
	"strings"
	"testing"

	"intaglio/mac"
)

func unhex(t *testing.T, s string) []byte {
	t.Helper()
	b, err := hex.DecodeString(s)
	if err != nil {
		t.Fatal(err)
	}
	return b
}

func randomBytes(rnd *rand.Rand, n int) []byte {
	b := make([]byte, n)
	rnd.Read(b)
	return b
}

// plainHmac is the sum by the chapter's words.
func plainHmac(key, text []byte) [32]byte {
	k := bytes.Clone(key)
	if len(k) > 64 {
		short := sha256.Sum256(k)
		k = short[:]
	}
	for len(k) < 64 {
		k = append(k, 0)
	}
	var outer, inner []byte
	for _, c := range k {
		outer, inner = append(outer, c^92), append(inner, c^54)
	}
	first := sha256.Sum256(append(inner, text...))
	return sha256.Sum256(append(outer, first[:]...))
}

// libraryHmac is the sum by the library.
func libraryHmac(key, text []byte) [32]byte {
	h := hmac.New(sha256.New, key)
	h.Write(text)
	return [32]byte(h.Sum(nil))
}

// checkHmac asks that Hmac is as the chapter's words and the library have it.
func checkHmac(t *testing.T, key, text []byte) {
	t.Helper()
	got, plain, library := mac.Hmac(key, text), plainHmac(key, text), libraryHmac(key, text)
	if got != plain || plain != library {
		t.Fatalf("key %x, text %x: %x, by the chapter's words %x, by the library %x", key, text, got, plain, library)
	}
}

// P6.1, and P2 of the whole: RFC 4231, 4.2 to 4.8, whose texts are of RFC 2104's sum by SHA-256.
func TestHmacOfTheStandard(t *testing.T) {
	long := strings.Repeat("aa", 131)
	for _, c := range [][3]string{
		{strings.Repeat("0b", 20), hex.EncodeToString([]byte("Hi There")), "b0344c61d8db38535ca8afceaf0bf12b881dc200c9833da726e9376c2e32cff7"},
		{hex.EncodeToString([]byte("Jefe")), hex.EncodeToString([]byte("what do ya want for nothing?")), "5bdcc146bf60754e6a042426089575c75a003f089d2739839dec58b964ec3843"},
		{strings.Repeat("aa", 20), strings.Repeat("dd", 50), "773ea91e36800e46854db8ebd09181a72959098b3ef8c122d9635514ced565fe"},
		{"0102030405060708090a0b0c0d0e0f10111213141516171819", strings.Repeat("cd", 50), "82558a389a443c0ea4cc819899f2083a85f0faa3e578f8077a2e3ff46729665b"},
		{strings.Repeat("0c", 20), hex.EncodeToString([]byte("Test With Truncation")), "a3b6167473100ee06e0c796c2955552b"},
		{long, hex.EncodeToString([]byte("Test Using Larger Than Block-Size Key - Hash Key First")), "60e431591ee0b67f0d8a26aacbf5b77f8e0bc6213728c5140546040f0ee37f54"},
		{long, hex.EncodeToString([]byte("This is a test using a larger than block-size key and a larger than block-size data. The key needs to be hashed before being used by the HMAC algorithm.")), "9b09ffa71b942fcb27635fbcd5b0e944bfdc63644f0713938a7f51535c3a35e2"},
	} {
		got := mac.Hmac(unhex(t, c[0]), unhex(t, c[1]))
		if !strings.HasPrefix(hex.EncodeToString(got[:]), c[2]) {
			t.Errorf("key %s, text %s: %x, want %s", c[0], c[1], got, c[2])
		}
	}
}

// P6.1: keys and texts of every length, about a block's and far from it.
func TestHmacOfEveryLength(t *testing.T) {
	rnd := rand.New(rand.NewSource(1))
	for n := range 140 {
		checkHmac(t, randomBytes(rnd, n), randomBytes(rnd, 20))
		checkHmac(t, randomBytes(rnd, 20), randomBytes(rnd, n))
	}
	for range 100 {
		checkHmac(t, randomBytes(rnd, rnd.Intn(1000)), randomBytes(rnd, rnd.Intn(1000)))
	}
	checkHmac(t, nil, nil)
	checkHmac(t, []byte{}, []byte{})
	checkHmac(t, bytes.Repeat([]byte{0xff}, 64), nil)
}

// P6.1: a key of 64 bytes counts as it is; one of 65 is as good as its sum.
func TestKeyOfABlock(t *testing.T) {
	rnd := rand.New(rand.NewSource(2))
	text := randomBytes(rnd, 33)
	for n := range 200 {
		key := randomBytes(rnd, n)
		short := sha256.Sum256(key)
		if same := mac.Hmac(key, text) == mac.Hmac(short[:], text); same != (n > 64) {
			t.Errorf("a key of %d bytes, and its sum: one Hmac is %v", n, same)
		}
	}
}

// P6.1: bytes 0 behind a key make no difference, up to 64 in all.
func TestZerosBehindAKey(t *testing.T) {
	rnd := rand.New(rand.NewSource(3))
	text := randomBytes(rnd, 10)
	for n := range 65 {
		key := append(randomBytes(rnd, n), make([]byte, 66-n)...)
		whole := mac.Hmac(key[:n], text)
		for m := n; m <= 66; m++ {
			if same := mac.Hmac(key[:m], text) == whole; same != (m <= 64) {
				t.Errorf("%d bytes, and 0 up to %d: one Hmac is %v", n, m, same)
			}
		}
	}
	if mac.Hmac(make([]byte, 64), text) != mac.Hmac(nil, text) {
		t.Error("64 bytes 0 and none: two")
	}
}

// P6.1: each bit of a key and of a text counts.
func TestEveryBitCounts(t *testing.T) {
	rnd := rand.New(rand.NewSource(4))
	for _, n := range []int{32, 64, 65} {
		key, text := randomBytes(rnd, n), randomBytes(rnd, n)
		whole := mac.Hmac(key, text)
		for bit := range 8 * n {
			for _, b := range [][]byte{key, text} {
				b[bit/8] ^= 1 << (bit % 8)
				if mac.Hmac(key, text) == whole {
					t.Errorf("%d bytes, bit %d turned: the same", n, bit)
				}
				b[bit/8] ^= 1 << (bit % 8)
			}
		}
	}
}

// P6.1: Extract is Hmac of the salt; an empty one is 32 bytes 0.
func TestExtract(t *testing.T) {
	rnd := rand.New(rand.NewSource(5))
	for range 100 {
		salt, secret := randomBytes(rnd, rnd.Intn(150)), randomBytes(rnd, rnd.Intn(150))
		if got, want := mac.Extract(salt, secret), plainHmac(salt, secret); got != want {
			t.Fatalf("salt %x, secret %x: %x, want %x", salt, secret, got, want)
		}
	}
	for _, secret := range [][]byte{nil, {}, {0}, []byte("secret"), randomBytes(rnd, 200)} {
		want := plainHmac(make([]byte, 32), secret)
		for _, salt := range [][]byte{nil, {}, make([]byte, 32)} {
			if got := mac.Extract(salt, secret); got != want {
				t.Errorf("salt %x, secret %x: %x, want %x", salt, secret, got, want)
			}
		}
	}
}

// Rule 4: what is handed in stays as it is, its spare room too.
func TestMemory(t *testing.T) {
	full := bytes.Repeat([]byte{0xee}, 300)
	for _, n := range []int{0, 1, 32, 63, 64, 65, 100} {
		key, text := bytes.Clone(full), bytes.Clone(full)
		mac.Hmac(key[:n], text[:n])
		mac.Extract(key[:n], text[:n])
		out, _ := mac.Expand(key[:n], text[:n], 100)
		if !bytes.Equal(key, full) || !bytes.Equal(text, full) {
			t.Fatalf("%d bytes: what was handed in is %x and %x", n, key, text)
		}
		keep := bytes.Clone(out)
		clear(key)
		clear(text)
		if !bytes.Equal(out, keep) {
			t.Fatalf("%d bytes: behind a change of what was handed in: %x", n, out)
		}
	}
}
