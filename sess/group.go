package sess

import (
	"intaglio/api"
	"intaglio/pack"
	"intaglio/store"
)

// mostCommands is how many commands a group may have that is read.
const mostCommands = api.MaxQueue + 1

// Group is commands that were done at once.
type Group struct {
	Now, Draw int
	Commands  [][]string
}

// within is a time as it counts.
func within(now int) int { return min(max(now, 0), api.MaxNum) }

// Replay does a group's commands once more.
func Replay(st *store.Store, g Group) {
	for _, args := range g.Commands {
		st.Do(g.Now, g.Draw, args)
	}
}

// Encode is a group as bytes.
func Encode(g Group) []byte {
	parts := [][]byte{pack.PutNum(nil, g.Now), pack.Put64(nil, uint64(g.Draw)), pack.PutNum(nil, len(g.Commands))}
	for _, args := range g.Commands {
		parts = append(parts, pack.PutNum(nil, len(args)))
		for _, word := range args {
			parts = append(parts, pack.Put(nil, []byte(word)))
		}
	}
	return pack.Join(parts...)
}

// Decode is the group of bytes; false: there is none.
func Decode(b []byte) (Group, bool) {
	r := pack.Read(b)
	g := Group{Now: r.Num(api.MaxNum), Draw: int(r.U64())}
	ok := true
	for range r.Num(mostCommands) {
		args := words(r)
		g.Commands = append(g.Commands, args)
		ok = ok && len(args) > 0
	}
	if r.End() != api.OK || !ok || len(g.Commands) == 0 {
		return Group{}, false
	}
	return g, true
}

// words is the words of the next command.
func words(r *pack.Reader) []string {
	var l []string
	for range r.Num(api.MaxArgs) {
		l = append(l, string(r.Bytes(api.MaxText)))
	}
	return l
}
