package play

import (
	"intaglio/api"
	"intaglio/wire"
)

// ways is how many ways the net has: of each client one to the server, and one from it.
const ways = 2 * api.MaxConns

// toServer is the way from a client to the server; fromServer, the way behind.
func toServer(who int) int { return 2 * who }

func fromServer(who int) int { return toServer(who) + 1 }

// send puts a frame under way. Nobody is told of one that the net does not take.
func (w *World) send(way int, frame []byte) { w.net.Send(way, frame) }

// bring lets the next frame of a way come.
func (w *World) bring(x api.Step) api.Errno {
	frame, e := w.net.Next(x.Way)
	if e != api.OK {
		return e
	}
	return w.come(x.Way, x.N, frame)
}

// again lets a frame come that ever was sent, turned.
func (w *World) again(x api.Step) api.Errno {
	frame, e := w.net.Pick(x.Way, x.K)
	if e != api.OK {
		return e
	}
	return w.come(x.M, x.N, wire.Turn(frame, x.At, x.By))
}

// come lets a frame come where a way goes.
func (w *World) come(way, n int, frame []byte) api.Errno {
	if way < 0 || way >= ways {
		return api.EARG
	}
	who := way / 2
	if way == toServer(who) {
		return w.take(who, n, frame)
	}
	return w.hear(who, frame)
}

// take lets a frame of a client come to the server.
func (w *World) take(who, n int, frame []byte) api.Errno {
	if w.server == nil {
		return api.ESTATE
	}
	answer, e := w.server.Take(who, n, random(n), frame)
	if len(answer) > 0 {
		w.send(fromServer(who), answer)
	}
	return e
}
