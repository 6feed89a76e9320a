package sess

import "intaglio/api"

// mostWords is how many bytes the words of all commands of a queue may have together.
const mostWords = 20000

// queue is commands that are to be done at once.
type queue struct {
	open     bool
	spoilt   bool // a command that was to be queued was told an error
	commands [][]string
	bytes    int // of all words
}

// spoil counts that a command was told an error, if a queue is open.
func (q *queue) spoil() { q.spoilt = q.open }

// take puts a command into the queue, if there is room.
func (q *queue) take(args []string) api.Reply {
	bytes := q.bytes
	for _, word := range args {
		bytes += len(word)
	}
	if len(q.commands) >= api.MaxQueue || bytes > mostWords {
		q.spoil()
		return failed("ERR too much")
	}
	q.commands, q.bytes = append(q.commands, copied(args)), bytes
	return simple("QUEUED")
}

// handOn is what is queued; the queue is open no more.
func (q *queue) handOn() [][]string {
	commands := copied(q.commands)
	*q = queue{}
	return commands
}

// copied is a list like this one, in memory of its own.
func copied[T any](l []T) []T {
	own := make([]T, len(l))
	copy(own, l)
	return own
}
