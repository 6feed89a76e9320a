package snap

import (
	"bytes"
	"math"
	"slices"

	"intaglio/api"
	"intaglio/pack"
)

// Chunks is entries, in chunks.
func Chunks(entries [][]byte) [][]byte {
	var chunks [][]byte
	grow := func(entry []byte) {
		last := len(chunks) - 1
		if last >= 0 && len(chunks[last])+len(entry) <= api.ChunkSize {
			chunks[last] = append(chunks[last], entry...)
		} else {
			chunks = append(chunks, entry)
		}
	}
	for _, entry := range entries {
		grow(pack.Put(nil, entry))
	}
	return chunks
}

// Split is the entries of chunks.
func Split(chunks [][]byte) ([][]byte, api.Errno) {
	var entries [][]byte
	for _, chunk := range chunks {
		r := pack.Read(chunk)
		for r.Left() > 0 {
			entries = append(entries, r.Bytes(math.MaxInt))
		}
	}
	// An entry that is not whole was read as one without bytes: what it stood in is no chunk of these entries either.
	if !slices.EqualFunc(Chunks(entries), chunks, bytes.Equal) {
		return nil, api.EFORM
	}
	return entries, api.OK
}
