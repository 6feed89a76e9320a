package shake

import "intaglio/api"

// Keys is what both agree on.
type Keys struct {
	Life, Conn, Peer int
}

// ID is the id of the keys of an epoch and a side.
func (k Keys) ID(epoch, side int) api.KeyID {
	return api.KeyID{Label: api.KFrame, Epoch: epoch, Life: k.Life, Num: k.Conn, Side: side, Peer: k.Peer}
}

// within is the number next to n that a counter may reach.
func within(n int) int { return min(max(n, 0), api.MaxNum) }

// nearest is keys whose numbers are brought within their bounds.
func (k Keys) nearest() Keys { return Keys{within(k.Life), within(k.Conn), within(k.Peer)} }

// mayBe tells whether anybody can agree on these keys.
func (k Keys) mayBe() bool { return k == k.nearest() }
