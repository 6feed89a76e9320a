package chacha

// Stream is a stream of blocks, some of which are gone.
type Stream struct {
	key   [32]byte
	nonce [12]byte
	// How many bytes are left says also where the stream stands, for all streams end with the same counter.
	left uint64
}

// New is a stream at its beginning.
func New(key [32]byte, counter uint32, nonce [12]byte) *Stream {
	return &Stream{key: key, nonce: nonce, left: (blocks - uint64(counter)) * blockSize}
}

// Left is how many bytes are left.
func (s *Stream) Left() uint64 {
	if s == nil {
		return 0
	}
	return s.left
}

// Xor is data, xored with the next bytes of the stream; false: there are not so many.
func (s *Stream) Xor(data []byte) ([]byte, bool) {
	if uint64(len(data)) > s.Left() {
		return nil, false
	}
	out := make([]byte, 0, len(data))
	for len(out) < len(data) {
		for _, k := range s.next(len(data) - len(out)) {
			out = append(out, data[len(out)]^k)
		}
	}
	return out, true
}

// next is the bytes that the block at hand has left, most of them at most; at least one byte must be left.
func (s *Stream) next(most int) []byte {
	counter := uint32(blocks - (s.left+blockSize-1)/blockSize)
	gone := (blockSize - s.left%blockSize) % blockSize
	block := Block(s.key, counter, s.nonce)
	n := min(most, blockSize-int(gone))
	s.left -= uint64(n)
	return block[gone:][:n]
}
