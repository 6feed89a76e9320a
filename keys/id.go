package keys

import (
	"intaglio/api"
	"intaglio/pack"
)

// count is how many numbers an id has.
const count = 6

// bounds are the least and the most of each of an id's numbers.
var bounds = [count]struct{ least, most int }{
	{api.KHead, api.KFrame},
	{0, api.MaxNum},
	{0, api.MaxNum},
	{0, api.MaxNum},
	{0, 1},
	{0, api.MaxNum},
}

// numbers are an id's numbers, in the order in which its bytes have them.
func numbers(id api.KeyID) [count]int {
	return [count]int{id.Label, id.Epoch, id.Life, id.Num, id.Side, id.Peer}
}

// named is the id of these numbers.
func named(n [count]int) api.KeyID {
	return api.KeyID{Label: n[0], Epoch: n[1], Life: n[2], Num: n[3], Side: n[4], Peer: n[5]}
}

// nearest is an id whose numbers are brought within their bounds.
func nearest(id api.KeyID) api.KeyID {
	n := numbers(id)
	for i, b := range bounds {
		n[i] = min(max(n[i], b.least), b.most)
	}
	return named(n)
}

// Valid tells whether an id may be.
func Valid(id api.KeyID) bool { return id == nearest(id) }

// Bytes is an id as bytes; none, if it may not be.
func Bytes(id api.KeyID) []byte {
	if !Valid(id) {
		return nil
	}
	var out []byte
	for _, n := range numbers(id) {
		out = pack.PutNum(out, n)
	}
	return out
}

// Parse is the id whose bytes these are; false: there is none.
func Parse(b []byte) (api.KeyID, bool) {
	r := pack.Read(b)
	var n [count]int
	for i := range n {
		n[i] = r.Num(api.MaxNum)
	}
	id := named(n)
	if r.End() != api.OK || !Valid(id) {
		return api.KeyID{}, false
	}
	return id, true
}
