package box

import (
	"intaglio/aead"
	"intaglio/api"
	"intaglio/keys"
	"intaglio/mac"
)

// reckoner is a real box: it reckons by keys of its secret.
type reckoner struct{ secret []byte }

// key is an id's key.
func (r reckoner) key(id api.KeyID) [32]byte {
	key, _ := keys.Derive(r.secret, id)
	return key
}

func (r reckoner) seal(u use, ad, text []byte) []byte {
	nonce, _ := keys.Nonce(u.n)
	sealed, _ := aead.Seal(r.key(u.id), nonce, ad, text)
	return sealed
}

func (r reckoner) open(u use, ad, sealed []byte) ([]byte, api.Errno) {
	nonce, _ := keys.Nonce(u.n)
	return aead.Open(r.key(u.id), nonce, ad, sealed)
}

func (r reckoner) mark(id api.KeyID, text []byte) []byte {
	key := r.key(id)
	sum := mac.Hmac(key[:], text)
	return sum[:]
}

func (r reckoner) check(id api.KeyID, text, mark []byte) bool {
	// How long it takes must not tell how much of a forged mark is right.
	return aead.Same(mark, r.mark(id, text))
}
