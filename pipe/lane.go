package pipe

import (
	"intaglio/api"
	"intaglio/keys"
)

// lane is how far the frames of one side are: where the next one stands, and how many were ahead of it.
type lane struct{ epoch, number, count int }

// spent tells whether there is no next frame.
func (l lane) spent(bounds api.Bounds) bool { return l.epoch > bounds.Epoch || bounds.Seq == 0 }

// behind is the lane behind its next frame.
func (l lane) behind(bounds api.Bounds) lane {
	number, e := keys.Next(l.number, bounds.Seq-1)
	if e != api.OK { // the epoch's last frame was this one
		return lane{l.epoch + 1, 0, l.count + 1}
	}
	return lane{l.epoch, number, l.count + 1}
}
