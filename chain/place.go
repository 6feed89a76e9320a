package chain

import (
	"intaglio/api"
	"intaglio/box"
	"intaglio/keys"
	"intaglio/pack"
	"intaglio/sha"
)

// sum is the sum of parts, one behind the other.
func sum(parts ...[]byte) [32]byte { return sha.Sum(pack.Join(parts...)) }

// place is where a record stands: in which log, how many records are ahead of it, and their chain.
type place struct {
	id    api.KeyID
	n     int
	chain [32]byte
}

// first is where a log's first record stands.
func first(id api.KeyID) place { return place{id: id, chain: sum(keys.Bytes(id))} }

// behind is the place behind a record that stands here, of these sealed bytes.
func (p place) behind(sealed []byte) place {
	return place{p.id, p.n + 1, sum(p.chain[:], sealed)}
}

// seal is a record that is to stand here, sealed.
func (p place) seal(b *box.Box, rec []byte) ([]byte, api.Errno) {
	return b.Seal(p.id, p.n, p.chain[:], rec)
}

// open is the record that was sealed for this place.
func (p place) open(b *box.Box, sealed []byte) ([]byte, api.Errno) {
	return b.Open(p.id, p.n, p.chain[:], sealed)
}
