package sess

import (
	"intaglio/api"
	"intaglio/store"
	"intaglio/verb"
)

// unwatch is the one command that a session does, and that may be queued.
const unwatch = "UNWATCH"

// work is what is done on a store at one time.
type work struct {
	store *store.Store
	group Group // what of it is to be replayed
}

// do does a command whose words may be.
func (w *work) do(args []string) api.Reply {
	spec, _ := verb.Find(args[0])
	if spec.Name == unwatch {
		return done()
	}
	reply := w.store.Do(w.group.Now, w.group.Draw, args)
	if spec.Writes && wasDone(reply) {
		w.group.Commands = append(w.group.Commands, copied(args))
	}
	return reply
}

// wasDone tells whether a command of this reply was done: a store that no call made does nothing, and its reply has no kind.
func wasDone(reply api.Reply) bool { return reply.Kind != 0 && reply.Kind != api.RError }

// told is the group of what was done; zero, if nothing is to be replayed.
func (w *work) told() Group {
	if len(w.group.Commands) == 0 {
		return Group{}
	}
	return w.group
}

// simple is a word, as +OK.
func simple(word string) api.Reply { return api.Reply{Kind: api.RSimple, Text: word} }

// done is what is told of what a session does.
func done() api.Reply { return simple("OK") }

// failed is an error.
func failed(why string) api.Reply { return api.Reply{Kind: api.RError, Text: why} }
