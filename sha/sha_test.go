package sha_test

import (
	"bytes"
	"crypto/sha256"
	"encoding/binary"
	"encoding/hex"
	"math"
	"math/rand"
	"strings"
	"testing"

	"intaglio/sha"
)

func randomBytes(rnd *rand.Rand, n int) []byte {
	b := make([]byte, n)
	rnd.Read(b)
	return b
}

// rising is n bytes, each 7 more than the one ahead.
func rising(n int) []byte {
	b := make([]byte, n)
	for i := range b {
		b[i] = byte(7*i + 3)
	}
	return b
}

func wantSum(t *testing.T, what string, got [32]byte, want string) {
	t.Helper()
	if hex.EncodeToString(got[:]) != want {
		t.Errorf("%s: %x, want %s", what, got, want)
	}
}

// P5.1, and P2 of the whole: the texts that the standard's examples are of.
func TestSumOfTheStandard(t *testing.T) {
	for text, want := range map[string]string{
		"":    "e3b0c44298fc1c149afbf4c8996fb92427ae41e4649b934ca495991b7852b855",
		"abc": "ba7816bf8f01cfea414140de5dae2223b00361a396177a9cb410ff61f20015ad",
		"abcdbcdecdefdefgefghfghighijhijkijkljklmklmnlmnomnopnopq":                                                         "248d6a61d20638b8e5c026930c3e6039a33ce45964ff2167f6ecedd419db06c1",
		"abcdefghbcdefghicdefghijdefghijkefghijklfghijklmghijklmnhijklmnoijklmnopjklmnopqklmnopqrlmnopqrsmnopqrstnopqrstu": "cf5b16a778af8380036ce59e7b0492370b249b11e8f07a51afac45037afee9d1",
		strings.Repeat("a", 1000000): "cdc76e5c9914fb9281a1c7e284d73e67f1809a48a497200e046d39ccc7112cd0",
	} {
		wantSum(t, text[:min(len(text), 60)], sha.Sum([]byte(text)), want)
	}
}

// P5.1: texts about as long as a block, and as a block without the length's room.
func TestSumAtTheEdges(t *testing.T) {
	for n, want := range map[int]string{
		0:   "e3b0c44298fc1c149afbf4c8996fb92427ae41e4649b934ca495991b7852b855",
		1:   "084fed08b978af4d7d196a7446a86b58009e636b611db16211b65a9aadff29c5",
		55:  "e7313d333c272e639f790978283f9eb392e843d0f29b7016828bb1daa4aac70b",
		56:  "4324d65f3c103567f5589c710bc08f8523f929a9272e3af36fc968e52abc6c27",
		57:  "35df609437dcfea3279283ab79fd554e2bf78f8f7ae2de532d8ee300b09e8f73",
		63:  "81c80242132f230c3bd41b3e63bbcff16107339549214a99614ff26664625055",
		64:  "39e3d7b6b5d075d37d053ad89b24b41bef4f3c29760c84447cab3f3be1882241",
		65:  "aacca6ff74fdbb296d165a45cecfa04e5127bc008770fbbdd48006f2d2fae95e",
		119: "9ce7368e4daf32341631b492e80359dc9f594b48453cd0dd5bf0b19279cc177e",
		120: "7836b787757e95e58b3ca5aec90b1b004e8deba1e50e9675af9cabf1a13a04b5",
		128: "d2742f1f4ac6bb7ca2b239ee18402ba8b3f9f8e652d2a72973c2b9ba11c08cf6",
	} {
		wantSum(t, "rising bytes", sha.Sum(rising(n)), want)
	}
	if sha.Sum(nil) != sha.Sum([]byte{}) {
		t.Error("nil and no bytes have two sums")
	}
}

// P5.1: a text of every length has the sum of the chapter's words, which is that of the library.
func TestSumOfEveryLength(t *testing.T) {
	rnd := rand.New(rand.NewSource(1))
	for n := range 200 {
		for _, text := range [][]byte{make([]byte, n), bytes.Repeat([]byte{0xff}, n), randomBytes(rnd, n)} {
			got, plain, library := sha.Sum(text), plainSum(text), sha256.Sum256(text)
			if got != plain || plain != library {
				t.Fatalf("of %x: %x, by the chapter's words %x, by the library %x", text, got, plain, library)
			}
		}
	}
	for range 40 {
		text := randomBytes(rnd, rnd.Intn(1<<13))
		if got, want := sha.Sum(text), sha256.Sum256(text); got != want {
			t.Fatalf("of %d bytes: %x, want %x", len(text), got, want)
		}
	}
}

// checkPad asks that what comes behind n bytes is as the chapter says.
func checkPad(t *testing.T, n int) {
	t.Helper()
	pad := sha.Pad(n)
	if len(pad) < 9 || len(pad) > 72 || (n%64+len(pad))%64 != 0 {
		t.Fatalf("behind %d: %d bytes", n, len(pad))
	}
	want := make([]byte, len(pad)-8)
	want[0] = 128
	want = binary.BigEndian.AppendUint64(want, 8*uint64(n))
	if !bytes.Equal(pad, want) {
		t.Errorf("behind %d: %x, want %x", n, pad, want)
	}
}

// P5.1: what comes behind texts of every length, also of more bytes than any text has.
func TestPad(t *testing.T) {
	for n := range 400 {
		checkPad(t, n)
	}
	for _, n := range []int{1 << 16, 1<<31 - 1, 1 << 31, 1 << 32, 1<<60 + 55, 1 << 61, 1<<61 + 1, 3 << 61, 1<<62 + 56} {
		checkPad(t, n)
	}
	for back := range 130 {
		checkPad(t, math.MaxInt-back)
	}
	for n, size := range map[int]int{0: 64, 1: 63, 54: 10, 55: 9, 56: 72, 57: 71, 63: 65, 64: 64, 65: 63, 119: 9, 120: 72} {
		if got := len(sha.Pad(n)); got != size {
			t.Errorf("behind %d: %d bytes, want %d", n, got, size)
		}
	}
}

// P5.1: of a length below 0 Pad tells what it tells of 0.
func TestPadBelowNothing(t *testing.T) {
	want := append([]byte{128}, make([]byte, 63)...)
	for _, n := range []int{0, -1, -3, -55, -56, -63, -64, -65, math.MinInt32, math.MinInt + 1, math.MinInt} {
		if got := sha.Pad(n); !bytes.Equal(got, want) {
			t.Errorf("behind %d: %x", n, got)
		}
	}
}

// P5.1: b and its Pad are summed; other texts with the same blocks ahead have other sums.
func TestSumTakesTheLengthIn(t *testing.T) {
	seen := map[[32]byte]int{}
	for n := range 300 {
		sum := sha.Sum(make([]byte, n))
		if m, ok := seen[sum]; ok {
			t.Errorf("%d and %d bytes 0 have one sum", m, n)
		}
		seen[sum] = n
	}
	for n := range 70 {
		text := rising(n)
		if padded := append(rising(n), sha.Pad(n)...); sha.Sum(text) == sha.Sum(padded) {
			t.Errorf("%d bytes, and with their Pad: one sum", n)
		}
	}
}

// Rule 4: what is handed in stays as it is, its spare room too, and each answer is new memory.
func TestSumMemory(t *testing.T) {
	for n := range 130 {
		room := bytes.Repeat([]byte{0xee}, 300)
		sha.Sum(room[:n])
		if !bytes.Equal(room, bytes.Repeat([]byte{0xee}, 300)) {
			t.Fatalf("%d bytes: what was handed in is %x", n, room)
		}
	}
	pad := sha.Pad(56)
	clear(pad[:cap(pad)])
	checkPad(t, 56)
}
