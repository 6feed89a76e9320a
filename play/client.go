package play

import (
	"intaglio/api"
	"intaglio/pipe"
	"intaglio/shake"
)

// Call is a call that a client began: its keys, what it said, and got.
type Call struct {
	Keys      shake.Keys
	Done      bool
	Said, Got []byte
}

// client is one who calls the server.
type client struct {
	call  *Call // nil: it has none
	shake *shake.Client
	pipe  *pipe.Pipe // nil, unless its call is done
}

// ask is a step of a client.
func (w *World) ask(x api.Step) api.Errno {
	if x.Who < 0 || x.Who >= api.MaxConns {
		return api.EARG
	}
	switch x.Kind {
	case api.SDial:
		return w.dial(x.Who, x.N)
	case api.SSay:
		return w.say(x.Who, x.Text)
	}
	return w.hang(x.Who)
}

// dial begins a new call, in the place of the one that was there.
func (w *World) dial(who, n int) api.Errno {
	peer := len(w.calls)
	talk, hello, e := shake.Dial(w.box, peer, random(n))
	if e != api.OK {
		return e
	}
	call := &Call{Keys: shake.Keys{Peer: peer}}
	w.calls = append(w.calls, call)
	w.clients[who] = client{call: call, shake: talk}
	w.send(toServer(who), hello)
	return api.OK
}

// say sends a text to the server.
func (w *World) say(who int, text []byte) api.Errno {
	c := w.clients[who]
	if c.pipe == nil {
		return api.ESTATE
	}
	frame, e := c.pipe.Seal(text)
	if e != api.OK {
		return e
	}
	c.call.Said = append(c.call.Said, text...)
	w.send(toServer(who), frame)
	return api.OK
}

// hang ends a call.
func (w *World) hang(who int) api.Errno {
	c := w.clients[who]
	if c.pipe == nil {
		return api.ESTATE
	}
	frame, e := c.pipe.Close()
	if e != api.OK {
		return e
	}
	w.send(toServer(who), frame)
	w.clients[who] = client{}
	return api.OK
}

// hear lets a frame come to a client; an error ends its call.
func (w *World) hear(who int, frame []byte) api.Errno {
	c := w.clients[who]
	if c.call == nil {
		return api.ESTATE
	}
	var e api.Errno
	if c.pipe == nil {
		e = w.answered(who, frame)
	} else {
		e = c.open(frame)
	}
	if e != api.OK {
		w.clients[who] = client{}
	}
	return e
}

// answered takes what the server answers to a hello: the call is done.
func (w *World) answered(who int, frame []byte) api.Errno {
	c := &w.clients[who]
	finish, keys, e := c.shake.Answer(frame)
	if e != api.OK {
		return e
	}
	c.pipe = pipe.New(w.box, keys, 0, w.bounds)
	c.call.Keys, c.call.Done = keys, true
	w.send(toServer(who), finish)
	return api.OK
}

// open takes what the server tells.
func (c client) open(frame []byte) api.Errno {
	text, e := c.pipe.Open(frame)
	c.call.Got = append(c.call.Got, text...)
	return e
}
