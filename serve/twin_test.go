package serve_test

import (
	"bytes"
	"fmt"
	"slices"
	"strings"
	"testing"

	"intaglio/api"
	"intaglio/pipe"
	"intaglio/resp"
	"intaglio/serve"
	"intaglio/shake"
)

// plenty is more memory than a server may use.
const plenty = 1 << 30

// wide is bounds that no test comes to.
func wide() api.Bounds {
	return api.Bounds{Nonce: 1000, Seq: 1000, Pin: 1000, Gen: 1000, Life: 1000, Epoch: 1000, Conn: 1000}
}

// twin is a server, and a plain one in a world like its own: whatever befalls them, they must tell the same, and leave the same.
type twin struct {
	*testing.T
	got, want world
	bounds    api.Bounds
	most, now int
	s         *serve.Server // nil behind a Boot with an error
	m         *plain
	peers     int // how many clients there were
}

func newTwin(t *testing.T, ideal bool, bounds api.Bounds) *twin {
	return &twin{T: t, got: newWorld(ideal, wide()), want: newWorld(ideal, wide()), bounds: bounds, most: plenty, now: 5}
}

// newApart is the same in worlds whose cells have their own powers and bounds.
func newApart(t *testing.T, ideal bool, bounds, cells api.Bounds) *twin {
	return &twin{T: t, got: apart(ideal, cells), want: apart(ideal, cells), bounds: bounds, most: plenty, now: 5}
}

// booted is a twin whose server is up.
func booted(t *testing.T, ideal bool, bounds api.Bounds) *twin {
	t.Helper()
	w := newTwin(t, ideal, bounds)
	w.tells("boot", w.boot(), api.OK)
	return w
}

// show is something as a text, in which nil and empty lists are one.
func show(x any) string { return fmt.Sprintf("%+v", x) }

// sameFiles tells whether two disks have the same files.
func sameFiles(a, b []api.File) bool {
	return slices.EqualFunc(a, b, func(a, b api.File) bool {
		return a.Name == b.Name && a.Kept == b.Kept && bytes.Equal(a.Data, b.Data)
	})
}

// each does something in both worlds.
func (w *twin) each(do func(w world)) {
	do(w.got)
	do(w.want)
}

// same asks that all is the same behind a call that told e.
func (w *twin) same(what string, got, want api.Errno) api.Errno {
	w.Helper()
	if got != want {
		w.Fatalf("%s: %d, want %d", what, got, want)
	}
	g, m := w.got, w.want
	if !sameFiles(g.d.Image(), m.d.Image()) {
		w.Fatalf("%s: files %q, want %q", what, g.d.Names(), m.d.Names())
	}
	if g.c.Pin() != m.c.Pin() || g.c.Life() != m.c.Life() || g.p.On() != m.p.On() || g.q.On() != m.q.On() {
		w.Fatalf("%s: pin %v, life %d, power %v, %v, want %v, %d, %v, %v", what, g.c.Pin(), g.c.Life(), g.p.On(), g.q.On(), m.c.Pin(), m.c.Life(), m.p.On(), m.q.On())
	}
	if g.b.Sealed() != m.b.Sealed() || g.b.Repeats() != 0 {
		w.Fatalf("%s: %d sealed, %d repeats, want %d, 0", what, g.b.Sealed(), g.b.Repeats(), m.b.Sealed())
	}
	if w.s != nil {
		w.sameServers(what)
	}
	return got
}

// sameServers asks for all that a server tells of itself.
func (w *twin) sameServers(what string) {
	w.Helper()
	s, m := w.s, w.m
	if s.Now() != m.now || s.Up() == m.down {
		w.Fatalf("%s: time %d, up %v, want %d, %v", what, s.Now(), s.Up(), m.now, !m.down)
	}
	if got, want := show(s.State()), show(m.st.Dump()); got != want {
		w.Fatalf("%s: state %.500s, want %.500s", what, got, want)
	}
	if got, want := show(s.Ran()), show(m.ran); got != want {
		w.Fatalf("%s: ran %.500s, want %.500s", what, got, want)
	}
	same := func(a serve.Talk, b *serve.Talk) bool {
		return a.Keys == b.Keys && bytes.Equal(a.Heard, b.Heard) && bytes.Equal(a.Told, b.Told)
	}
	if !slices.EqualFunc(s.Talks(), m.talks, same) {
		w.Fatalf("%s: talks %.500v, want %d", what, s.Talks(), len(m.talks))
	}
}

func (w *twin) boot() api.Errno {
	w.Helper()
	var e, e2 api.Errno
	w.s, e = serve.Boot(w.got.d, w.got.c, w.got.b, w.bounds, w.most, w.now)
	w.m, e2 = plainBoot(w.want, w.bounds, w.most, w.now)
	if (w.s == nil) != (e != api.OK) {
		w.Fatalf("boot: %d, server %v", e, w.s)
	}
	return w.same("boot", e, e2)
}

// take lets a frame come.
func (w *twin) take(way, draw int, rand [16]byte, frame []byte) ([]byte, api.Errno) {
	w.Helper()
	own := append(slices.Clone(frame), 9)
	got, e := w.s.Take(way, draw, rand, own[:len(frame)])
	if !bytes.Equal(own[:len(frame)], frame) || own[len(frame)] != 9 {
		w.Fatalf("take changed the frame %x", frame)
	}
	clear(own) // it must not be kept
	want, e2 := w.m.take(way, draw, rand, frame)
	if !bytes.Equal(got, want) {
		w.Fatalf("take: %x, want %x", got, want)
	}
	e = w.same(fmt.Sprintf("take on the way %d of %d bytes", way, len(frame)), e, e2)
	clear(got) // what is told is nobody else's
	return want, e
}

// sameOuts asks that the frames that go out are the same.
func (w *twin) sameOuts(what string, got, want []serve.Out) {
	w.Helper()
	if !slices.EqualFunc(got, want, func(a, b serve.Out) bool { return a.Way == b.Way && bytes.Equal(a.Frame, b.Frame) }) {
		w.Fatalf("%s: %.300x, want %.300x", what, got, want)
	}
}

func (w *twin) sync() ([]serve.Out, api.Errno) {
	w.Helper()
	got, e := w.s.Sync()
	want, e2 := w.m.sync()
	w.sameOuts("sync", got, want)
	return got, w.same("sync", e, e2)
}

func (w *twin) rewrite(turn bool) ([]serve.Out, api.Errno) {
	w.Helper()
	got, e := w.s.Rewrite(turn)
	want, e2 := w.m.rewrite(turn)
	w.sameOuts("rewrite", got, want)
	return got, w.same("rewrite", e, e2)
}

func (w *twin) close(way int) ([]byte, api.Errno) {
	w.Helper()
	got, e := w.s.Close(way)
	want, e2 := w.m.close(way)
	if !bytes.Equal(got, want) {
		w.Fatalf("close: %x, want %x", got, want)
	}
	return got, w.same("close", e, e2)
}

func (w *twin) tick(n int) {
	w.Helper()
	w.s.Tick(n)
	w.m.tick(n)
	w.same(fmt.Sprint("tick ", n), api.OK, api.OK)
}

// tells asks that a call told this.
func (w *twin) tells(what string, got, want api.Errno) {
	w.Helper()
	if got != want {
		w.Fatalf("%s: %d, want %d", what, got, want)
	}
}

// fuse lets so many acts go on.
func (w *twin) fuse(n int) { w.each(func(w world) { w.p.Fuse(n) }) }

// crash takes the power away, and what is not kept; it comes again.
func (w *twin) crash(cuts ...int) { w.each(func(w world) { w.d.Crash(cuts) }) }

// client is one who calls the server, in both worlds.
type client struct {
	*twin
	way, peer int
	hands     [2]*shake.Client
	hello     []byte
	keys      shake.Keys
	ends      [2]*pipe.Pipe
	opened    []byte
	read      int // how many bytes of that were asked for
}

// caller is a client that has its hello.
func (w *twin) caller(way int) *client {
	w.Helper()
	c := &client{twin: w, way: way, peer: w.peers}
	w.peers++
	for i, b := range []world{w.got, w.want} {
		hand, hello, e := shake.Dial(b.b, c.peer, [16]byte{byte(c.peer), 7})
		w.tells("dial", e, api.OK)
		c.hands[i], c.hello = hand, hello
	}
	return c
}

// answers takes an answer, and is the finish.
func (c *client) answers(answer []byte) []byte {
	c.Helper()
	var finish []byte
	for i, b := range []world{c.got, c.want} {
		f, k, e := c.hands[i].Answer(answer)
		c.tells("answer", e, api.OK)
		finish, c.keys = f, k
		c.ends[i] = pipe.New(b.b, k, 0, c.bounds)
	}
	return finish
}

// dialled is a client whose hello was answered; and what finishes the talk.
func (w *twin) dialled(way int) (*client, []byte) {
	w.Helper()
	c := w.caller(way)
	answer, e := w.take(way, 0, [16]byte{byte(way), 8}, c.hello)
	w.tells("hello", e, api.OK)
	return c, c.answers(answer)
}

// call is a client that has a pipe.
func (w *twin) call(way int) *client {
	w.Helper()
	c, finish := w.dialled(way)
	_, e := w.take(way, 0, [16]byte{}, finish)
	w.tells("finish", e, api.OK)
	return c
}

// seal is the frame of a text.
func (c *client) seal(text string) []byte {
	c.Helper()
	var frame []byte
	for _, end := range c.ends {
		f, e := end.Seal([]byte(text))
		c.tells("seal", e, api.OK)
		frame = f
	}
	return frame
}

// hang is the client's last frame.
func (c *client) hang() []byte {
	c.Helper()
	var frame []byte
	for _, end := range c.ends {
		f, e := end.Close()
		c.tells("close", e, api.OK)
		frame = f
	}
	return frame
}

// texts says texts, that are one frame.
func (c *client) texts(l ...string) api.Errno {
	c.Helper()
	_, e := c.take(c.way, 3, [16]byte{}, c.seal(strings.Join(l, "")))
	return e
}

// command is a command, of words with blanks between, as bytes.
func command(s string) string { return string(resp.Command(strings.Split(s, " "))) }

// says sends commands, in one frame, that are taken.
func (c *client) says(commands ...string) *client {
	c.Helper()
	var l []string
	for _, s := range commands {
		l = append(l, command(s))
	}
	c.tells(fmt.Sprintf("%.60q", commands), c.texts(l...), api.OK)
	return c
}

// opens takes what goes out on the client's way.
func (c *client) opens(outs []serve.Out) {
	c.Helper()
	for _, o := range outs {
		if o.Way != c.way {
			continue
		}
		for i, end := range c.ends {
			text, e := end.Open(o.Frame)
			c.tells("open", e, api.OK)
			if i == 0 {
				c.opened = append(c.opened, text...)
			}
		}
	}
}

// heard asks for what it was told since it was asked the last time, and reads it as replies' bytes.
func (c *client) heard(want ...string) {
	c.Helper()
	text := strings.ReplaceAll(string(c.opened[c.read:]), "\r\n", "|")
	c.read = len(c.opened)
	if text != strings.Join(want, "") {
		c.Fatalf("heard %.300q, want %.300q", text, want)
	}
}

// synced lets all last, and asks that each client hears this.
func (w *twin) synced(clients ...*client) {
	w.Helper()
	outs, e := w.sync()
	w.tells("sync", e, api.OK)
	for _, c := range clients {
		c.opens(outs)
	}
}

// both does something in worlds of each kind of box.
func both(t *testing.T, do func(t *testing.T, ideal bool)) {
	t.Helper()
	t.Run("real", func(t *testing.T) { do(t, false) })
	t.Run("ideal", func(t *testing.T) { do(t, true) })
}
