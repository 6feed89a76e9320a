package play_test

import (
	"bytes"
	"fmt"
	"slices"
	"strings"
	"testing"

	"intaglio/api"
	"intaglio/play"
	"intaglio/resp"
	"intaglio/serve"
	"intaglio/shake"
)

// wide is bounds that no test comes to.
func wide() api.Bounds {
	return api.Bounds{Nonce: 1000, Seq: 1000, Pin: 1000, Gen: 1000, Life: 1000, Epoch: 1000, Conn: 1000}
}

// twin is a world, and a plain one: whatever befalls them, they must tell the same.
type twin struct {
	*testing.T
	w    *play.World
	m    *plain
	read [6]int // of each client how many bytes that its call got were asked for
}

func newTwin(t *testing.T, bounds api.Bounds, most int, ideal bool) *twin {
	return &twin{T: t, w: play.New(bounds, most, ideal), m: newPlain(bounds, most, ideal)}
}

// both does something in worlds of each kind of box.
func both(t *testing.T, do func(t *testing.T, ideal bool)) {
	t.Helper()
	t.Run("real", func(t *testing.T) { do(t, false) })
	t.Run("ideal", func(t *testing.T) { do(t, true) })
}

// show is something as a text, in which nil and empty lists are one.
func show(x any) string { return fmt.Sprintf("%+v", x) }

// sameFiles tells whether these are the same files.
func sameFiles(a, b []api.File) bool {
	return slices.EqualFunc(a, b, func(a, b api.File) bool {
		return a.Name == b.Name && a.Kept == b.Kept && bytes.Equal(a.Data, b.Data)
	})
}

func sameTalks(a, b []serve.Talk) bool {
	return slices.EqualFunc(a, b, func(a, b serve.Talk) bool {
		return a.Keys == b.Keys && bytes.Equal(a.Heard, b.Heard) && bytes.Equal(a.Told, b.Told)
	})
}

func sameCalls(a, b []play.Call) bool {
	return slices.EqualFunc(a, b, func(a, b play.Call) bool {
		return a.Keys == b.Keys && a.Done == b.Done && bytes.Equal(a.Said, b.Said) && bytes.Equal(a.Got, b.Got)
	})
}

// same asks that both worlds tell the same.
func (w *twin) same(what string) {
	w.Helper()
	g, m := w.w, w.m
	if g.Up() != (m.server() != nil) || g.Now() != m.now {
		w.Fatalf("%s: up %v, time %d, want %v, %d", what, g.Up(), g.Now(), m.server() != nil, m.now)
	}
	if got, want := show(g.State()), show(m.server().State()); got != want {
		w.Fatalf("%s: state %.300s, want %.300s", what, got, want)
	}
	if got, want := show(g.Ran()), show(m.ran()); got != want {
		w.Fatalf("%s: ran %.300s, want %.300s", what, got, want)
	}
	if !sameTalks(g.Talks(), m.talks()) || !sameCalls(g.Calls(), m.calls()) {
		w.Fatalf("%s: talks %.300v, calls %.300v, want %.300v, %.300v", what, g.Talks(), g.Calls(), m.talks(), m.calls())
	}
	for way := -1; way <= 12; way++ {
		if g.Waiting(way) != m.net.Waiting(way) {
			w.Fatalf("%s: %d frames wait on the way %d, want %d", what, g.Waiting(way), way, m.net.Waiting(way))
		}
	}
	if !sameFiles(g.Files(), m.d.Image()) {
		w.Fatalf("%s: files %.300v, want %.300v", what, g.Files(), m.d.Image())
	}
	if g.Life() != m.c.Life() || g.Pin() != m.c.Pin() || g.Sealed() != m.b.Sealed() || g.Repeats() != m.b.Repeats() {
		w.Fatalf("%s: life %d, pin %v, %d sealed, %d repeats, want %d, %v, %d, %d", what, g.Life(), g.Pin(), g.Sealed(), g.Repeats(), m.c.Life(), m.c.Pin(), m.b.Sealed(), m.b.Repeats())
	}
}

// step lets something befall both.
func (w *twin) step(x api.Step) api.Errno {
	w.Helper()
	own := x
	own.Text, own.Cuts = append(slices.Clone(x.Text), 9), append(slices.Clone(x.Cuts), 9)
	own.Text, own.Cuts = own.Text[:len(x.Text)], own.Cuts[:len(x.Cuts)]
	got, want := w.w.Step(own), w.m.step(x)
	if got != want {
		w.Fatalf("%.200s: %d, want %d", show(x), got, want)
	}
	if !bytes.Equal(own.Text, x.Text) || !slices.Equal(own.Cuts, x.Cuts) || own.Text[:len(x.Text)+1][len(x.Text)] != 9 || own.Cuts[:len(x.Cuts)+1][len(x.Cuts)] != 9 {
		w.Fatalf("%.200s: what was handed in was changed", show(x))
	}
	clear(own.Text) // it must not be kept
	clear(own.Cuts)
	w.same(fmt.Sprintf("%.200s", show(x)))
	return got
}

// does lets something befall both, and asks what is told of it.
func (w *twin) does(want api.Errno, l ...api.Step) {
	w.Helper()
	for _, x := range l {
		if e := w.step(x); e != want {
			w.Fatalf("%.200s: %d, want %d", show(x), e, want)
		}
	}
}

// Steps that all tests do.
func boot() api.Step { return api.Step{Kind: api.SBoot} }

func crash(cuts ...int) api.Step { return api.Step{Kind: api.SCrash, Cuts: cuts} }

func fuse(n int) api.Step { return api.Step{Kind: api.SFuse, N: n} }

func tick(n int) api.Step { return api.Step{Kind: api.STick, N: n} }

func dial(who int) api.Step { return api.Step{Kind: api.SDial, Who: who, N: 77} }

func bring(way int) api.Step { return api.Step{Kind: api.SBring, Way: way, N: 3} }

func again(way, k, m int) api.Step { return api.Step{Kind: api.SAgain, Way: way, K: k, M: m} }

func forge(m int, frame ...byte) api.Step { return api.Step{Kind: api.SForge, M: m, Text: frame} }

func lose(way int) api.Step { return api.Step{Kind: api.SLose, Way: way} }

func sync() api.Step { return api.Step{Kind: api.SSync} }

func rewrite(n int) api.Step { return api.Step{Kind: api.SRewrite, N: n} }

func hang(who int) api.Step { return api.Step{Kind: api.SHang, Who: who} }

func keep() api.Step { return api.Step{Kind: api.SKeep} }

// say is a step of commands, each of words with blanks between.
func say(who int, commands ...string) api.Step {
	var text []byte
	for _, c := range commands {
		text = append(text, resp.Command(strings.Split(c, " "))...)
	}
	return api.Step{Kind: api.SSay, Who: who, Text: text}
}

// booted is a twin whose server is up.
func booted(t *testing.T, bounds api.Bounds, ideal bool) *twin {
	t.Helper()
	w := newTwin(t, bounds, api.MaxMemory, ideal)
	w.does(api.OK, boot())
	return w
}

// calls lets clients have calls that are done, on both sides.
func (w *twin) calls(clients ...int) {
	w.Helper()
	for _, who := range clients {
		w.does(api.OK, dial(who), bring(2*who), bring(2*who+1), bring(2*who))
		w.read[who] = 0
	}
}

// says lets a client say commands, that are taken.
func (w *twin) says(who int, commands ...string) {
	w.Helper()
	w.does(api.OK, say(who, commands...), bring(2*who))
}

// synced lets all last, and brings what is under way to clients.
func (w *twin) synced(clients ...int) {
	w.Helper()
	w.does(api.OK, sync())
	for _, who := range clients {
		for w.w.Waiting(2*who+1) > 0 {
			w.does(api.OK, bring(2*who+1))
		}
	}
}

// call is the last call that a client began.
func (w *twin) call(who int) play.Call {
	w.Helper()
	i := slices.Index(w.m.lines, w.m.has[who])
	if i < 0 {
		w.Fatalf("the client %d has no call", who)
	}
	return w.w.Calls()[i]
}

// got asks for what a client's call got since it was asked the last time.
func (w *twin) got(who int, want string) {
	w.Helper()
	text := w.call(who).Got
	if s := strings.ReplaceAll(string(text[w.read[who]:]), "\r\n", "|"); s != want {
		w.Fatalf("the client %d got %.300q, want %.300q", who, s, want)
	}
	w.read[who] = len(text)
}

// holds asks for the strings that are there, as k=1.
func (w *twin) holds(want ...string) {
	w.Helper()
	var l []string
	for _, e := range w.w.State() {
		l = append(l, e.Key+"="+e.Val.Text)
	}
	if !slices.Equal(l, want) {
		w.Fatalf("there is %q, want %q", l, want)
	}
}

// keysOf is keys of a life, a connection and a peer.
func keysOf(life, conn, peer int) shake.Keys { return shake.Keys{Life: life, Conn: conn, Peer: peer} }
