package poly_test

import (
	"bytes"
	"encoding/hex"
	"math/big"
	"math/rand"
	"slices"
	"testing"

	"intaglio/poly"
)

func unhex(t *testing.T, s string) []byte {
	t.Helper()
	b, err := hex.DecodeString(s)
	if err != nil {
		t.Fatal(err)
	}
	return b
}

// fromLow is the number of bytes, the lowest first.
func fromLow(b []byte) *big.Int {
	high := slices.Clone(b)
	slices.Reverse(high)
	return new(big.Int).SetBytes(high)
}

// lowest is the lowest sixteen bytes of a number, the lowest first.
func lowest(x *big.Int) (out [16]byte) {
	new(big.Int).And(x, new(big.Int).Sub(new(big.Int).Lsh(big.NewInt(1), 128), big.NewInt(1))).FillBytes(out[:])
	slices.Reverse(out[:])
	return out
}

// plainSum is the sum by the chapter's words, in numbers of any width.
func plainSum(key [32]byte, text []byte) [16]byte {
	r := key
	for _, i := range []int{3, 7, 11, 15} {
		r[i] &= 0x0f
	}
	for _, i := range []int{4, 8, 12} {
		r[i] &= 0xfc
	}
	mod := new(big.Int).Sub(new(big.Int).Lsh(big.NewInt(1), 130), big.NewInt(5))
	sum := new(big.Int)
	for piece := range slices.Chunk(text, 16) {
		sum.Add(sum, fromLow(append(slices.Clone(piece), 1)))
		sum.Mod(sum.Mul(sum, fromLow(r[:16])), mod)
	}
	return lowest(sum.Add(sum, fromLow(key[16:])))
}

func randomBytes(rnd *rand.Rand, n int) []byte {
	b := make([]byte, n)
	rnd.Read(b)
	return b
}

// someKeys are keys of which bits that count, and that don't, are set in many ways.
func someKeys(rnd *rand.Rand) [][32]byte {
	keys := [][32]byte{{}, {0: 1}, {0: 2}, {15: 0x10}, {31: 0x80}, [32]byte(bytes.Repeat([]byte{0xff}, 32))}
	for range 6 {
		keys = append(keys, [32]byte(randomBytes(rnd, 32)))
	}
	return keys
}

// P3.1, and P2 of the whole: RFC 8439, 2.5.2 and A.3.
func TestSumOfTheStandard(t *testing.T) {
	const full = "ffffffffffffffffffffffffffffffff"
	const none = "00000000000000000000000000000000"
	const one = "01000000000000000000000000000000"
	const two = "02000000000000000000000000000000"
	const wide = "01000000000000000400000000000000"
	poem := hex.EncodeToString([]byte("'Twas brillig, and the slithy toves\nDid gyre and gimble in the wabe:\nAll mimsy were the borogoves,\nAnd the mome raths outgrabe."))
	group := hex.EncodeToString([]byte("Cryptographic Forum Research Group"))
	for _, c := range [][3]string{
		{"85d6be7857556d337f4452fe42d506a80103808afb0db2fd4abff6af4149f51b", group, "a8061dc1305136c6c22b8baf0c0127a9"},
		{none + none, none + none + none + none, none},
		{"1c9240a5eb55d38af333888604f6b5f0473917c1402b80099dca5cbc207075c0", poem, "4541669a7eaaee61e708dc7cbcc5eb62"},
		{two + none, full, "03000000000000000000000000000000"},
		{two + full, two, "03000000000000000000000000000000"},
		{one + none, full + "f0ffffffffffffffffffffffffffffff" + "11000000000000000000000000000000", "05000000000000000000000000000000"},
		{one + none, full + "fbfefefefefefefefefefefefefefefe" + "01010101010101010101010101010101", none},
		{two + none, "fdffffffffffffffffffffffffffffff", "faffffffffffffffffffffffffffffff"},
		{wide + none, "e33594d7505e43b900000000000000003394d7505e4379cd01000000000000000000000000000000000000000000000001000000000000000000000000000000", "14000000000000005500000000000000"},
		{wide + none, "e33594d7505e43b900000000000000003394d7505e4379cd010000000000000000000000000000000000000000000000", "13000000000000000000000000000000"},
	} {
		key := [32]byte(unhex(t, c[0]))
		text, want := unhex(t, c[1]), [16]byte(unhex(t, c[2]))
		if got := poly.Sum(key, text); got != want {
			t.Errorf("key %x: %x, want %x", key, got, want)
		}
		if got := plainSum(key, text); got != want {
			t.Errorf("key %x: the plain sum is %x, want %x", key, got, want)
		}
	}
}

// P3.1: a text of no bytes, of whole pieces, of one byte less and more.
func TestSumOfEveryLength(t *testing.T) {
	rnd := rand.New(rand.NewSource(1))
	for _, key := range someKeys(rnd) {
		for n := range 100 {
			for _, text := range [][]byte{make([]byte, n), bytes.Repeat([]byte{0xff}, n), randomBytes(rnd, n)} {
				if got, want := poly.Sum(key, text), plainSum(key, text); got != want {
					t.Fatalf("key %x, text %x: %x, want %x", key, text, got, want)
				}
			}
		}
		text := randomBytes(rnd, 5001)
		if got, want := poly.Sum(key, text), plainSum(key, text); got != want {
			t.Fatalf("key %x, a long text: %x, want %x", key, got, want)
		}
	}
}

// P3.1: no bytes are no piece, and a byte 0 is one.
func TestSumOfNothing(t *testing.T) {
	key := [32]byte(randomBytes(rand.New(rand.NewSource(2)), 32))
	for _, text := range [][]byte{nil, {}} {
		if got := poly.Sum(key, text); got != [16]byte(key[16:]) {
			t.Errorf("%x, want %x", got, key[16:])
		}
	}
	seen := map[[16]byte]int{}
	for n := range 50 {
		sum := poly.Sum(key, make([]byte, n))
		if m, ok := seen[sum]; ok {
			t.Errorf("%d and %d bytes 0 have one sum", m, n)
		}
		seen[sum] = n
	}
}

// P3.1: sums about 2^130 - 5 are taken modulo it, and s goes round at 2^128.
func TestSumAboutTheModulus(t *testing.T) {
	for r := range 8 {
		key := [32]byte{0: byte(r)}
		for _, s := range []byte{0, 0xff} {
			copy(key[16:], bytes.Repeat([]byte{s}, 16))
			for low := range 256 {
				// Four times 2^128 and a number about 2^128 - 1 come near to 2^130, above and below.
				last := append([]byte{byte(low)}, bytes.Repeat([]byte{0xff}, 15)...)
				for _, text := range [][]byte{last, append(bytes.Repeat([]byte{0xff}, 16), last...), append(make([]byte, 32), last...), append(bytes.Repeat([]byte{0xff}, 32), last...)} {
					if got, want := poly.Sum(key, text), plainSum(key, text); got != want {
						t.Fatalf("key %x, text %x: %x, want %x", key, text, got, want)
					}
				}
			}
		}
	}
}

// P3.1: of the key's first sixteen bytes, 22 bits don't count; each other bit does.
func TestBitsThatDoNotCount(t *testing.T) {
	idle := [16]byte{3: 0xf0, 4: 3, 7: 0xf0, 8: 3, 11: 0xf0, 12: 3, 15: 0xf0}
	rnd := rand.New(rand.NewSource(3))
	for range 5 {
		key := [32]byte(randomBytes(rnd, 32))
		text := randomBytes(rnd, 45)
		sum := poly.Sum(key, text)
		for bit := range 256 {
			turned := key
			turned[bit/8] ^= 1 << (bit % 8)
			same := bit < 128 && idle[bit/8]>>(bit%8)&1 == 1
			if got := poly.Sum(turned, text); (got == sum) != same {
				t.Errorf("bit %d turned: %x, of the key as it was %x", bit, got, sum)
			}
		}
	}
}

// P3.1: of a key of which no bit counts the sum is its last sixteen bytes, whatever the text.
func TestKeyOfNoR(t *testing.T) {
	rnd := rand.New(rand.NewSource(4))
	for _, first := range [][16]byte{{}, {3: 0xf0, 4: 3, 7: 0xf0, 8: 3, 11: 0xf0, 12: 3, 15: 0xf0}} {
		key := [32]byte(randomBytes(rnd, 32))
		copy(key[:], first[:])
		for n := range 70 {
			if got := poly.Sum(key, randomBytes(rnd, n)); got != [16]byte(key[16:]) {
				t.Errorf("%d bytes: %x, want %x", n, got, key[16:])
			}
		}
	}
}

// P3.2: a sum may be asked for at every place, more than once, and more may come behind.
func TestSumBetween(t *testing.T) {
	rnd := rand.New(rand.NewSource(5))
	for _, key := range someKeys(rnd) {
		text := randomBytes(rnd, 70)
		m := poly.New(key)
		for n := range text {
			for range 2 {
				if got, want := m.Sum(), plainSum(key, text[:n]); got != want {
					t.Fatalf("behind %d bytes: %x, want %x", n, got, want)
				}
			}
			m.Write(text[n : n+1])
			m.Write(nil)
		}
		if got, want := m.Sum(), plainSum(key, text); got != want {
			t.Fatalf("of all: %x, want %x", got, want)
		}
	}
}

// P3.3: in what pieces a text comes makes no difference.
func TestPieces(t *testing.T) {
	rnd := rand.New(rand.NewSource(6))
	for range 300 {
		key, text := [32]byte(randomBytes(rnd, 32)), randomBytes(rnd, rnd.Intn(200))
		m := poly.New(key)
		for at := 0; at < len(text); {
			n := min(rnd.Intn(1+rnd.Intn(60)), len(text)-at)
			m.Write(text[at : at+n])
			at += n
			if rnd.Intn(3) == 0 {
				m.Sum()
			}
		}
		if got, want := m.Sum(), poly.Sum(key, text); got != want {
			t.Fatalf("%d bytes: %x, want %x", len(text), got, want)
		}
	}
}

// P3.3: a text that is cut once, at each of its places.
func TestCutOnce(t *testing.T) {
	rnd := rand.New(rand.NewSource(7))
	key := [32]byte(randomBytes(rnd, 32))
	for n := range 50 {
		text := randomBytes(rnd, n)
		for cut := range n + 1 {
			m := poly.New(key)
			m.Write(text[:cut])
			m.Write(text[cut:])
			if got, want := m.Sum(), plainSum(key, text); got != want {
				t.Fatalf("%d of %d bytes: %x, want %x", cut, n, got, want)
			}
		}
	}
}

// P3.4: the sum of a key is that of its first sixteen bytes, and s added modulo 2^128.
func TestShift(t *testing.T) {
	rnd := rand.New(rand.NewSource(8))
	for _, key := range someKeys(rnd) {
		var bare [32]byte
		copy(bare[:16], key[:])
		for n := range 40 {
			text := randomBytes(rnd, n)
			unshifted := poly.Sum(bare, text)
			want := lowest(new(big.Int).Add(fromLow(unshifted[:]), fromLow(key[16:])))
			if got := poly.Sum(key, text); got != want {
				t.Fatalf("key %x, %d bytes: %x, want %x", key, n, got, want)
			}
		}
	}
}

// P3.2, and rule 6: of a Mac that New did not make nothing is written, and its sum is zero.
func TestMacThatNewDidNotMake(t *testing.T) {
	for name, m := range map[string]*poly.Mac{"nil": nil, "new": new(poly.Mac), "zero": {}} {
		for _, n := range []int{0, 1, 15, 16, 17, 300} {
			m.Write(bytes.Repeat([]byte{0xff}, n))
			if sum := m.Sum(); sum != [16]byte{} {
				t.Errorf("%s, behind %d bytes: %x", name, n, sum)
			}
		}
	}
}

// Rule 4: what is written is neither changed nor kept.
func TestWriteMemory(t *testing.T) {
	key := [32]byte(randomBytes(rand.New(rand.NewSource(9)), 32))
	for n := range 40 {
		room := bytes.Repeat([]byte{0xee}, 64)
		m := poly.New(key)
		m.Write(room[:n])
		m.Sum()
		if !bytes.Equal(room, bytes.Repeat([]byte{0xee}, 64)) {
			t.Fatalf("%d bytes: what was handed in is %x", n, room)
		}
		clear(room)
		if got, want := m.Sum(), plainSum(key, bytes.Repeat([]byte{0xee}, n)); got != want {
			t.Fatalf("%d bytes: %x, want %x", n, got, want)
		}
	}
}

// Rule 5: Macs know nothing of one another.
func TestTwoMacs(t *testing.T) {
	rnd := rand.New(rand.NewSource(10))
	keyA, keyB := [32]byte(randomBytes(rnd, 32)), [32]byte(randomBytes(rnd, 32))
	textA, textB := randomBytes(rnd, 60), randomBytes(rnd, 60)
	a, b := poly.New(keyA), poly.New(keyB)
	for at := 0; at < 60; at += 5 {
		a.Write(textA[at : at+5])
		b.Write(textB[at : at+5])
	}
	if a.Sum() != plainSum(keyA, textA) || b.Sum() != plainSum(keyB, textB) {
		t.Errorf("%x, %x", a.Sum(), b.Sum())
	}
}
