package shake

import (
	"intaglio/api"
	"intaglio/pack"
)

// Kinds of frames, told by their first byte.
const (
	isHello = iota + 1
	isAnswer
	isFinish
)

// randoms is how many random bytes a hello and an answer have.
const randoms = 16

// lay is a frame of a kind: its numbers, and the bytes behind them.
func lay(kind byte, numbers []int, rest []byte) []byte {
	frame := []byte{kind}
	for _, n := range numbers {
		frame = pack.PutNum(frame, n)
	}
	return pack.Join(frame, rest)
}

// read is a frame's numbers, and the bytes behind them; false: it is not of this kind, with so many of each.
func read(frame []byte, kind, count, size int) (numbers []int, rest []byte, ok bool) {
	r := pack.Read(frame)
	ok = r.U8() == kind
	for range count {
		numbers = append(numbers, r.Num(api.MaxNum))
	}
	// Behind an error nothing is left, and each kind has bytes behind its numbers.
	rest = r.Rest()
	return numbers, rest, ok && len(rest) == size
}
