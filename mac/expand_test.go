package mac_test

import (
	"bytes"
	"crypto/hkdf"
	"crypto/sha256"
	"encoding/hex"
	"math"
	"math/rand"
	"testing"

	"intaglio/mac"
)

// mostExpanded is how many bytes may be asked for: 255 times 32.
const mostExpanded = 8160

// plainExpand is so many bytes by the chapter's words.
func plainExpand(key, info []byte, n int) []byte {
	var out, ahead []byte
	for i := 1; len(out) < n; i++ {
		piece := plainHmac(key, append(append(bytes.Clone(ahead), info...), byte(i)))
		ahead = piece[:]
		out = append(out, ahead...)
	}
	return out[:n]
}

// expand is what Expand tells of so many bytes as may be asked for.
func expand(t *testing.T, key, info []byte, n int) []byte {
	t.Helper()
	out, ok := mac.Expand(key, info, n)
	if !ok || len(out) != n {
		t.Fatalf("%d bytes: %v, %d", n, ok, len(out))
	}
	return out
}

func wantBytes(t *testing.T, what string, got, want []byte) {
	t.Helper()
	if !bytes.Equal(got, want) {
		t.Errorf("%s: %x, want %x", what, got, want)
	}
}

// count is bytes from one on, each one more.
func count(from, n int) []byte {
	b := make([]byte, n)
	for i := range b {
		b[i] = byte(from + i)
	}
	return b
}

// P6.1, P6.2, and P2 of the whole: RFC 5869, A.1 to A.3.
func TestHkdfOfTheStandard(t *testing.T) {
	elevens := bytes.Repeat([]byte{0x0b}, 22)
	for _, c := range []struct {
		salt, secret, info []byte
		key, out           string
	}{
		{count(0, 13), elevens, count(0xf0, 10), "077709362c2e32df0ddc3f0dc47bba6390b6c73bb50f9c3122ec844ad7c2b3e5", "3cb25f25faacd57a90434f64d0362f2a2d2d0a90cf1a5a4c5db02d56ecc4c5bf34007208d5b887185865"},
		{count(0x60, 80), count(0, 80), count(0xb0, 80), "06a6b88c5853361a06104c9ceb35b45cef760014904671014a193f40c15fc244", "b11e398dc80327a1c8e7f78c596a49344f012eda2d4efad8a050cc4c19afa97c59045a99cac7827271cb41c65e590e09da3275600c2f09b8367793a9aca3db71cc30c58179ec3e87c14c01d5c1f3434f1d87"},
		{nil, elevens, nil, "19ef24a32c717b167f33a91d6f648bdf96596776afdb6377ac434c1c293ccb04", "8da4e775a563c18f715f802a063c5a31b8a11f5c5ee1879ec3454e5f3c738d2d9d201395faa4b61a96c8"},
	} {
		key := mac.Extract(c.salt, c.secret)
		if hex.EncodeToString(key[:]) != c.key {
			t.Errorf("key %x, want %s", key, c.key)
		}
		want := unhex(t, c.out)
		wantBytes(t, "bytes", expand(t, key[:], c.info, len(want)), want)
	}
}

// P6.2: as many bytes as were asked for, about one sum, about the most, and between.
func TestExpand(t *testing.T) {
	rnd := rand.New(rand.NewSource(6))
	for _, n := range []int{0, 1, 31, 32, 33, 63, 64, 65, 96, 1000, 8128, 8129, mostExpanded - 1, mostExpanded} {
		for _, keySize := range []int{0, 32, 64, 65} {
			key, info := randomBytes(rnd, keySize), randomBytes(rnd, rnd.Intn(100))
			got := expand(t, key, info, n)
			wantBytes(t, "the chapter's words", got, plainExpand(key, info, n))
			library, err := hkdf.Expand(sha256.New, key, string(info), n)
			if err != nil {
				t.Fatal(err)
			}
			wantBytes(t, "the library", got, library)
		}
	}
}

// P6.2: each sum takes in the one ahead, the info and its own number.
func TestExpandSumBySum(t *testing.T) {
	key, info := []byte("a key"), []byte("an info")
	first := plainHmac(key, append(bytes.Clone(info), 1))
	second := plainHmac(key, append(append(bytes.Clone(first[:]), info...), 2))
	wantBytes(t, "two sums", expand(t, key, info, 64), append(first[:], second[:]...))
	all := expand(t, key, info, mostExpanded)
	last := plainHmac(key, append(append(bytes.Clone(all[253*32:254*32]), info...), 255))
	wantBytes(t, "the last sum", all[254*32:], last[:])
}

// P6.2: none and false below 0, and above 8160.
func TestExpandRefuses(t *testing.T) {
	for _, n := range []int{-1, -32, math.MinInt32, math.MinInt, mostExpanded + 1, mostExpanded + 32, 1 << 16, math.MaxInt32, math.MaxInt} {
		for _, key := range [][]byte{nil, []byte("a key")} {
			if out, ok := mac.Expand(key, []byte("an info"), n); ok || len(out) != 0 {
				t.Errorf("%d bytes: %v, %x", n, ok, out)
			}
		}
	}
}

// P6.3: fewer bytes are the first ones of more.
func TestFewerAreTheFirst(t *testing.T) {
	rnd := rand.New(rand.NewSource(7))
	for _, info := range [][]byte{nil, []byte("an info"), randomBytes(rnd, 200)} {
		key := randomBytes(rnd, 32)
		all := expand(t, key, info, mostExpanded)
		for n := range 200 {
			wantBytes(t, "few", expand(t, key, info, n), all[:n])
		}
		for n := mostExpanded - 40; n <= mostExpanded; n++ {
			wantBytes(t, "many", expand(t, key, info, n), all[:n])
		}
	}
}

// P6.2: other keys and other infos tell other bytes.
func TestExpandIsOfKeyAndInfo(t *testing.T) {
	whole := expand(t, []byte("a key"), []byte("an info"), 100)
	for name, other := range map[string][]byte{
		"key":     expand(t, []byte("b key"), []byte("an info"), 100),
		"info":    expand(t, []byte("a key"), []byte("bn info"), 100),
		"no info": expand(t, []byte("a key"), nil, 100),
		"moved":   expand(t, []byte("a keya"), []byte("n info"), 100),
	} {
		if bytes.Equal(whole, other) || bytes.Equal(whole[:32], other[:32]) || bytes.Equal(whole[32:64], other[32:64]) {
			t.Errorf("another %s: the same bytes", name)
		}
	}
}

// Rule 4: each answer is new memory, and its spare room hides no bytes that were not asked for.
func TestExpandMemory(t *testing.T) {
	key, info := []byte("a key"), []byte("an info")
	for _, n := range []int{0, 1, 31, 32, 33, 100} {
		out := expand(t, key, info, n)
		for i, c := range out[n:cap(out)] {
			if c != 0 {
				t.Errorf("%d bytes: %d behind them, at %d", n, c, i)
			}
		}
		clear(out[:cap(out)])
		wantBytes(t, "again", expand(t, key, info, n), plainExpand(key, info, n))
	}
}
