package shake_test

import (
	"math"
	"testing"

	"intaglio/api"
	"intaglio/keys"
	"intaglio/shake"
)

// P22.1: an id has the keys' numbers, each in its place, whatever they are.
func TestID(t *testing.T) {
	k := shake.Keys{Life: 12, Conn: 13, Peer: 14}
	if id := k.ID(11, 1); id != (api.KeyID{Label: 6, Epoch: 11, Life: 12, Num: 13, Side: 1, Peer: 14}) {
		t.Error(id)
	}
	if id := (shake.Keys{}).ID(0, 0); id != (api.KeyID{Label: api.KFrame}) {
		t.Error(id)
	}
	numbers := []int{math.MinInt, -1, 0, 1, 2, most, most + 1, math.MaxInt}
	for _, a := range numbers {
		for _, b := range numbers {
			for _, c := range numbers {
				k := shake.Keys{Life: a, Conn: b, Peer: c}
				for _, side := range numbers {
					if id := k.ID(c, side); id != (api.KeyID{Label: api.KFrame, Epoch: c, Life: a, Num: b, Side: side, Peer: c}) {
						t.Errorf("%v, %d, %d: %v", k, c, side, id)
					}
					if id := k.ID(b, side); id.Epoch != b {
						t.Errorf("%v, %d, %d: %v", k, b, side, id)
					}
				}
			}
		}
	}
}

// P22.1: keys that are unlike have unlike ids, and each epoch and side its own.
func TestUnlikeIDs(t *testing.T) {
	ids := map[api.KeyID]struct{}{}
	for n := range 1 << 5 {
		bit := func(i int) int { return n >> i & 1 }
		id := shake.Keys{Life: bit(0), Conn: bit(1), Peer: bit(2)}.ID(bit(3), bit(4))
		if !keys.Valid(id) {
			t.Error(id)
		}
		ids[id] = struct{}{}
	}
	if len(ids) != 1<<5 {
		t.Errorf("%d ids", len(ids))
	}
}

// P22.1: of one who made keys of numbers that may be, every epoch's id may be, also the last one's.
func TestIDsThatMayBe(t *testing.T) {
	for _, a := range goodNumbers() {
		for _, b := range goodNumbers() {
			if !keys.Valid(shake.Keys{Life: a, Conn: b, Peer: a}.ID(b, 0)) || !keys.Valid(shake.Keys{Life: b, Conn: a, Peer: b}.ID(most, 1)) {
				t.Error(a, b)
			}
		}
	}
}
