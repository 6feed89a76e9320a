package serve

import (
	"intaglio/api"
	"intaglio/pipe"
	"intaglio/resp"
	"intaglio/sess"
	"intaglio/shake"
)

// isHello is a hello's first byte.
const isHello = 1

// mostText is how many bytes a text has that is sent; the last one of several may have fewer.
const mostText = 50000

// Talk is what was opened and sealed by a connection that two have, or had.
type Talk struct {
	Keys        shake.Keys
	Heard, Told []byte
}

// conn is a connection.
type conn struct {
	*resp.Parser
	shake   *shake.Server
	pipe    *pipe.Pipe // nil: the talk is not finished
	session *sess.Session
	talk    *Talk  // what its pipe opened and sealed
	waiting []byte // replies that were not sent yet
	ending  bool   // it ends when they are sent
}

// wait lets a reply wait.
func (c *conn) wait(r api.Reply) { c.waiting = append(c.waiting, resp.Encode(r)...) }

// fail lets an error wait.
func (c *conn) fail(why string) { c.wait(api.Reply{Kind: api.RError, Text: why}) }

// send is the frames of the replies that wait; the error of the pipe behind them, if it has one.
func (c *conn) send() ([][]byte, api.Errno) {
	var frames [][]byte
	for len(c.waiting) > 0 {
		text := c.waiting[:min(len(c.waiting), mostText)]
		frame, e := c.pipe.Seal(text)
		if e != api.OK {
			return frames, e
		}
		frames = append(frames, frame)
		c.talk.Told = append(c.talk.Told, text...)
		c.waiting = c.waiting[len(text):]
	}
	c.waiting = nil // what was sent must not be kept
	return frames, api.OK
}
