package wire

import "intaglio/api"

// lane is a way: what is under way on it, and all that ever was sent. Nobody waits at its channel, which has room for a whole bag.
type lane struct {
	under chan []byte
	bag   [][]byte
}

// newLane is a way on which nothing was sent.
func newLane() *lane { return &lane{under: make(chan []byte, api.MaxBag)} }

// send puts a frame behind the others.
func (l *lane) send(frame []byte) api.Errno {
	if len(l.bag) < api.MaxBag {
		select {
		case l.under <- frame:
			l.bag = append(l.bag, frame)
			return api.OK
		default:
		}
	}
	return api.EFULL
}

// next takes the first frame that is under way.
func (l *lane) next() ([]byte, api.Errno) {
	select {
	case frame := <-l.under:
		return frame, api.OK
	default:
		return nil, api.ENONE
	}
}

// pick is the k-th frame that ever was sent.
func (l *lane) pick(k int) ([]byte, api.Errno) {
	if k < 0 || k >= len(l.bag) {
		return nil, api.ENONE
	}
	return l.bag[k], api.OK
}
