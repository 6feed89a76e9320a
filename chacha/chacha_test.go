package chacha_test

import (
	"bytes"
	"encoding/hex"
	"math"
	"math/rand"
	"testing"

	"intaglio/chacha"
)

func unhex(t *testing.T, s string) []byte {
	t.Helper()
	b, err := hex.DecodeString(s)
	if err != nil {
		t.Fatal(err)
	}
	return b
}

func want(t *testing.T, what string, got, want []byte) {
	t.Helper()
	if !bytes.Equal(got, want) {
		t.Errorf("%s:\n%x, want\n%x", what, got, want)
	}
}

// rising is the key 00 01 02 .. of RFC 8439.
func rising() (key [32]byte) {
	for i := range key {
		key[i] = byte(i)
	}
	return key
}

func someNonce() [12]byte { return [12]byte{1, 2, 3, 4, 5, 6, 7, 8, 9, 10, 11, 12} }

// streamBytes is n bytes of a stream, by Block alone.
func streamBytes(key [32]byte, counter uint32, nonce [12]byte, n int) []byte {
	var out []byte
	for i := 0; len(out) < n; i++ {
		b := chacha.Block(key, counter+uint32(i), nonce)
		out = append(out, b[:]...)
	}
	return out[:n]
}

func xored(a, b []byte) []byte {
	out := make([]byte, len(a))
	for i := range a {
		out[i] = a[i] ^ b[i]
	}
	return out
}

// P2.1: RFC 8439, 2.1.1 and 2.2.1 (there on the numbers at 2, 7, 8, 13).
func TestQuarter(t *testing.T) {
	for _, c := range [][2][4]uint32{
		{{0x11111111, 0x01020304, 0x9b8d6f43, 0x01234567}, {0xea2a92f4, 0xcb1cf8ce, 0x4581472e, 0x5881c4bb}},
		{{0x516461b1, 0x2a5f714c, 0x53372767, 0x3d631689}, {0xbdb886dc, 0xcfacafd2, 0xe46bea80, 0xccc07c79}},
		{{0, 0, 0, 0}, {0, 0, 0, 0}},
	} {
		in, out := c[0], c[1]
		var got [4]uint32
		got[0], got[1], got[2], got[3] = chacha.Quarter(in[0], in[1], in[2], in[3])
		if got != out {
			t.Errorf("%x, want %x", got, out)
		}
	}
}

// P2.1, and P2 of the whole: RFC 8439, 2.3.2 and A.1.
func TestBlock(t *testing.T) {
	for _, c := range []struct {
		key     [32]byte
		counter uint32
		nonce   [12]byte
		out     string
	}{
		{rising(), 1, [12]byte{3: 9, 7: 0x4a}, "10f1e7e4d13b5915500fdd1fa32071c4c7d1f4c733c068030422aa9ac3d46c4ed2826446079faa0914c2d705d98b02a2b5129cd1de164eb9cbd083e8a2503c4e"},
		{[32]byte{}, 0, [12]byte{}, "76b8e0ada0f13d90405d6ae55386bd28bdd219b8a08ded1aa836efcc8b770dc7da41597c5157488d7724e03fb8d84a376a43b8f41518a11cc387b669b2ee6586"},
		{[32]byte{}, 1, [12]byte{}, "9f07e7be5551387a98ba977c732d080dcb0f29a048e3656912c6533e32ee7aed29b721769ce64e43d57133b074d839d531ed1f28510afb45ace10a1f4b794d6f"},
		{[32]byte{31: 1}, 1, [12]byte{}, "3aeb5224ecf849929b9d828db1ced4dd832025e8018b8160b82284f3c949aa5a8eca00bbb4a73bdad192b5c42f73f2fd4e273644c8b36125a64addeb006c13a0"},
		{[32]byte{1: 0xff}, 2, [12]byte{}, "72d54dfbf12ec44b362692df94137f328fea8da73990265ec1bbbea1ae9af0ca13b25aa26cb4a648cb9b9d1be65b2c0924a66c54d545ec1b7374f4872e99f096"},
		{[32]byte{}, 0, [12]byte{11: 2}, "c2c64d378cd536374ae204b9ef933fcd1a8b2288b3dfa49672ab765b54ee27c78a970e0e955c14f3a88e741b97c286f75f8fc299e8148362fa198a39531bed6d"},
	} {
		b := chacha.Block(c.key, c.counter, c.nonce)
		want(t, "block", b[:], unhex(t, c.out))
	}
}

// P2.1: bytes and counters that are great count whole.
func TestBlockOfGreatNumbers(t *testing.T) {
	full := bytes.Repeat([]byte{0xff}, 32)
	b := chacha.Block([32]byte(full), math.MaxUint32, [12]byte(full[:12]))
	want(t, "all ones", b[:], unhex(t, "d72b21cfa4b6b0c41d61f62b8a11159c6a4f63bc56c2035796c7ad37811121bbec56d54a530f3a933dd28a50feb23bfaf64f405be985f3718bdf4683e96be749"))
	key := [32]byte(unhex(t, "f0e1d2c3b4a5968778695a4b3c2d1e0f8090a0b0c0d0e0f08192a3b4c5d6e7f8"))
	b = chacha.Block(key, 0xbbaa9988, [12]byte(key[:12]))
	want(t, "high bits", b[:], unhex(t, "8f3cb79cd7949df3b781a172b657d397503da1b05d8b9e7f01553d028cb1c79b03cb16e7339e5a8513440a8b996ffe123c89aabb703cbff8753fdfedec84faf8"))
}

// P2.2, and P2 of the whole: RFC 8439, 2.4.2.
func TestXorOfTheStandard(t *testing.T) {
	text := "Ladies and Gentlemen of the class of '99: If I could offer you only one tip for the future, sunscreen would be it."
	hidden := unhex(t, "6e2e359a2568f98041ba0728dd0d6981e97e7aec1d4360c20a27afccfd9fae0bf91b65c5524733ab8f593dabcd62b3571639d624e65152ab8f530c359f0861d807ca0dbf500d6a6156a38e088a22b65e52bc514d16ccf806818ce91ab77937365af90bbf74a35be6b40b8eedf2785e42874d")
	nonce := [12]byte{7: 0x4a}
	got, ok := chacha.Xor(rising(), 1, nonce, []byte(text))
	if !ok {
		t.Fatal("false")
	}
	want(t, "hidden", got, hidden)
	got, ok = chacha.New(rising(), 1, nonce).Xor([]byte(text))
	if !ok {
		t.Fatal("false of a stream")
	}
	want(t, "hidden by a stream", got, hidden)
}

// P2.2: data of every length is xored with the blocks of counter, counter + 1, and so on.
func TestXor(t *testing.T) {
	rnd := rand.New(rand.NewSource(3))
	for _, counter := range []uint32{0, 1, 77, math.MaxInt32, math.MaxUint32 - 4} {
		for _, n := range []int{0, 1, 2, 63, 64, 65, 127, 128, 129, 200, 256, 257, 300} {
			data := make([]byte, n)
			rnd.Read(data)
			got, ok := chacha.Xor(rising(), counter, someNonce(), data)
			if !ok {
				t.Fatalf("counter %d, %d bytes: false", counter, n)
			}
			want(t, "Xor", got, xored(data, streamBytes(rising(), counter, someNonce(), n)))
		}
	}
}

// P2.2: the last counter is 2^32 - 1; behind it nothing goes round.
func TestXorLastCounter(t *testing.T) {
	for _, c := range []struct {
		counter uint32
		n       int
		ok      bool
	}{
		{math.MaxUint32, 0, true}, {math.MaxUint32, 1, true}, {math.MaxUint32, 64, true},
		{math.MaxUint32, 65, false}, {math.MaxUint32, 128, false}, {math.MaxUint32, 1 << 16, false},
		{math.MaxUint32 - 1, 65, true}, {math.MaxUint32 - 1, 128, true}, {math.MaxUint32 - 1, 129, false},
		{math.MaxUint32 - 1023, 1 << 16, true}, {math.MaxUint32 - 1022, 1 << 16, false},
	} {
		got, ok := chacha.Xor(rising(), c.counter, someNonce(), make([]byte, c.n))
		if ok != c.ok {
			t.Errorf("counter %d, %d bytes: %v", c.counter, c.n, ok)
		}
		if c.ok {
			want(t, "Xor", got, streamBytes(rising(), c.counter, someNonce(), c.n))
		} else {
			want(t, "Xor", got, nil)
		}
	}
}

// Rule 4: data stays as it is, its spare room too, and shares nothing with the answer.
func TestXorMemory(t *testing.T) {
	s := chacha.New(rising(), 1, someNonce())
	for name, xor := range map[string]func(data []byte) ([]byte, bool){
		"Xor":        func(data []byte) ([]byte, bool) { return chacha.Xor(rising(), 1, someNonce(), data) },
		"Stream.Xor": s.Xor,
	} {
		room := bytes.Repeat([]byte{0xee}, 300)
		got, _ := xor(room[:100])
		keep := bytes.Clone(got)
		want(t, name+": its spare room", room, bytes.Repeat([]byte{0xee}, 300))
		clear(room)
		want(t, name+": behind a change of data", got, keep)
	}
}

// P2.4: what is xored twice is as it was.
func TestTwice(t *testing.T) {
	rnd := rand.New(rand.NewSource(4))
	for range 50 {
		var key [32]byte
		var nonce [12]byte
		data := make([]byte, rnd.Intn(400))
		rnd.Read(key[:])
		rnd.Read(nonce[:])
		rnd.Read(data)
		counter := rnd.Uint32() >> 1
		hidden, ok := chacha.Xor(key, counter, nonce, data)
		back, ok2 := chacha.Xor(key, counter, nonce, hidden)
		if !ok || !ok2 {
			t.Fatal(ok, ok2)
		}
		want(t, "twice", back, data)
		if len(data) >= 16 && bytes.Equal(hidden, data) {
			t.Error("nothing is hidden")
		}
	}
}
