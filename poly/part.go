package poly

// pieceSize is how many bytes a piece has.
const pieceSize = 16

// part is bytes that are no piece yet.
type part struct {
	held [pieceSize]byte
	n    int
}

// fill takes bytes in till there is a piece, and tells those that it left.
func (p *part) fill(b []byte) []byte {
	n := copy(p.held[p.n:], b)
	p.n += n
	return b[n:]
}

// begun tells whether there are bytes.
func (p *part) begun() bool { return p.n > 0 }

// full tells whether the bytes are a piece.
func (p *part) full() bool { return p.n == pieceSize }

// piece is the bytes' number, a byte 1 behind them.
func (p *part) piece() number {
	var b [pieceSize + 1]byte
	copy(b[:], p.held[:p.n])
	b[p.n] = 1
	return fromBytes(b[:])
}
