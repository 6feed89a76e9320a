package play

import (
	"bytes"
	"slices"

	"intaglio/api"
	"intaglio/serve"
	"intaglio/sess"
)

// held is all that a world holds; of nil nothing.
func (w *World) held() World {
	if w == nil {
		return World{}
	}
	return *w
}

// Up tells whether there is a server that is up.
func (w *World) Up() bool { return w.held().server != nil }

// Now is the time.
func (w *World) Now() int { return w.held().now }

// State is the server's entries; Ran, its groups, or those of the last one.
func (w *World) State() []api.Entry { return w.held().server.State() }

func (w *World) Ran() []sess.Group {
	if w.Up() {
		return w.server.Ran()
	}
	return copies(w.held().ran, copyGroup)
}

// Talks is what all servers heard and told; Calls, what all clients said and got.
func (w *World) Talks() []serve.Talk {
	h := w.held()
	return append(copies(h.talks, copyTalk), h.server.Talks()...)
}

func (w *World) Calls() []Call { return copies(w.held().calls, copyCall) }

// Waiting is how many frames are under way.
func (w *World) Waiting(way int) int { return w.held().net.Waiting(way) }

// Files is all files.
func (w *World) Files() []api.File { return w.held().disk.Image() }

// Life and Pin are the cell's; Sealed and Repeats, the box's.
func (w *World) Life() int { return w.held().cell.Life() }

func (w *World) Pin() api.Pin { return w.held().cell.Pin() }

func (w *World) Sealed() int { return w.held().box.Sealed() }

func (w *World) Repeats() int { return w.held().box.Repeats() }

// copies is what is like each thing of a list, in memory of its own.
func copies[T, U any](l []T, like func(T) U) []U {
	var own []U
	for _, x := range l {
		own = append(own, like(x))
	}
	return own
}

func copyGroup(g sess.Group) sess.Group {
	g.Commands = copies(g.Commands, slices.Clone[[]string])
	return g
}

func copyTalk(t serve.Talk) serve.Talk {
	t.Heard, t.Told = bytes.Clone(t.Heard), bytes.Clone(t.Told)
	return t
}

func copyCall(c *Call) Call {
	return Call{Keys: c.Keys, Done: c.Done, Said: bytes.Clone(c.Said), Got: bytes.Clone(c.Got)}
}
