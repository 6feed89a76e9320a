package sess_test

import (
	"fmt"
	"slices"
	"strings"
	"testing"

	"intaglio/api"
	"intaglio/sess"
	"intaglio/store"
)

// desk is a store on which some work at once, by sessions; a store like it, on which plain sessions work; and one on which all that is told to be done is replayed.
type desk struct {
	*testing.T
	got, want, again *store.Store
	sessions         []*sess.Session
	plains           []*plain
	now, draw        int
	groups           []sess.Group
	most             int
}

// plenty is more memory than any test uses.
const plenty = 1 << 20

func newDesk(t *testing.T, sessions, most int) *desk {
	d := &desk{T: t, got: store.New(most), want: store.New(most), again: store.New(most), now: 10, draw: 3, most: most}
	for range sessions {
		d.sessions, d.plains = append(d.sessions, sess.New()), append(d.plains, &plain{})
	}
	return d
}

// show is something as a text, in which nil and empty lists are one.
func show(x any) string { return fmt.Sprintf("%+v", x) }

// keys are the keys that commands of the tests use.
func keys() []string { return []string{"a", "b", "c", "k", "l", "s", "z", ""} }

// do lets the session i do a command, and asks that all is as the plain one has it.
func (d *desk) do(i int, args ...string) api.Reply {
	d.Helper()
	own := slices.Clone(args)
	r, g := d.sessions[i].Do(d.got, d.now, d.draw, own)
	r2, g2 := d.plains[i].do(d.want, d.now, d.draw, slices.Clone(args))
	if !slices.Equal(own, args) {
		d.Fatalf("%.100q: the words are %.100q behind it", args, own)
	}
	for k := range own { // what is handed in isn't kept
		own[k] = "changed"
	}
	if show(r) != show(r2) || show(g) != show(g2) {
		d.Fatalf("%.100q at %d: %.300v, %.300v, want %.300v, %.300v", args, d.now, r, g, r2, g2)
	}
	d.same(fmt.Sprintf("%.100q", args))
	if len(g.Commands) > 0 {
		d.groups = append(d.groups, g)
		d.replay(g)
	}
	d.again.Sweep(d.now)
	if show(d.got.Dump()) != show(d.again.Dump()) {
		d.Fatalf("%.100q: %v, replayed %v", args, d.got.Dump(), d.again.Dump())
	}
	return r
}

// replay does a group once more, as it was told or as its bytes tell it.
func (d *desk) replay(g sess.Group) {
	d.Helper()
	if len(d.groups)%2 == 0 {
		h, ok := sess.Decode(sess.Encode(g))
		if !ok || show(h) != show(g) {
			d.Fatalf("%v: %v, %v", g, h, ok)
		}
		g = h
	}
	ahead := show(g)
	sess.Replay(d.again, g)
	if show(g) != ahead {
		d.Fatalf("%s is replayed, and is %v", ahead, g)
	}
}

// whole replays all groups on a new store, on which nothing is swept but by them and at the end.
func (d *desk) whole() {
	d.Helper()
	st := store.New(d.most)
	for _, g := range d.groups {
		sess.Replay(st, g)
	}
	st.Sweep(d.now)
	if show(st.Dump()) != show(d.got.Dump()) {
		d.Fatalf("all groups replayed: %v, want %v", st.Dump(), d.got.Dump())
	}
}

// same asks that both stores, and what is queued, are the same.
func (d *desk) same(what string) {
	d.Helper()
	if show(d.got.Dump()) != show(d.want.Dump()) {
		d.Fatalf("%s: %v, want %v", what, d.got.Dump(), d.want.Dump())
	}
	for _, key := range keys() {
		if d.got.Version(key) != d.want.Version(key) {
			d.Fatalf("%s: version of %q is %d, want %d", what, key, d.got.Version(key), d.want.Version(key))
		}
	}
	for i, s := range d.sessions {
		if s.Queue() != len(d.plains[i].queued) {
			d.Fatalf("%s: %d queued, want %d", what, s.Queue(), len(d.plains[i].queued))
		}
	}
}

// tells lets the session i do a command, of words with blanks between, and asks what is told.
func (d *desk) tells(i int, command string, want api.Reply) {
	d.Helper()
	if r := d.do(i, strings.Split(command, " ")...); show(r) != show(want) {
		d.Fatalf("%.100q: %.200v, want %.200v", command, r, want)
	}
}

// ok is the reply of most that a session does.
func ok() api.Reply { return word("OK") }

func queued() api.Reply { return word("QUEUED") }

func num(n int) api.Reply { return api.Reply{Kind: api.RInt, Int: n} }

func bulk(s string) api.Reply { return api.Reply{Kind: api.RBulk, Text: s} }

func null() api.Reply { return api.Reply{Kind: api.RNil} }

func list(l ...api.Reply) api.Reply { return api.Reply{Kind: api.RArray, List: l} }

func noList() api.Reply { return api.Reply{Kind: api.RNone} }

// told asks for the last group.
func (d *desk) told(now, draw int, commands ...string) {
	d.Helper()
	want := sess.Group{Now: now, Draw: draw}
	for _, c := range commands {
		want.Commands = append(want.Commands, strings.Split(c, " "))
	}
	if len(d.groups) == 0 || show(d.groups[len(d.groups)-1]) != show(want) {
		d.Fatalf("groups %v, want %v as the last one", d.groups, want)
	}
}

// count asks how many groups there were.
func (d *desk) count(n int) {
	d.Helper()
	if len(d.groups) != n {
		d.Fatalf("groups %v, want %d", d.groups, n)
	}
}

func long(n int) string { return strings.Repeat("x", n) }
