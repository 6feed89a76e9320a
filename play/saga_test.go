package play_test

import (
	"bytes"
	"fmt"
	"math/rand"
	"strings"
	"testing"

	"intaglio/api"
	"intaglio/resp"
	"intaglio/sess"
	"intaglio/store"
)

// saga is a world whom anything befalls, and what must hold of it.
type saga struct {
	*twin
	rnd    *rand.Rand
	bounds api.Bounds
	most   int
	edits  bool        // may files be edited?
	base   []api.Entry // what the last server began with
	sure   int         // how many of its groups were told to last
	lost   bool        // no boot goes well any more
	saw    map[string]int
}

// deep is bounds of which only those of a log and of a pipe's epoch are met.
func deep(rnd *rand.Rand) api.Bounds {
	bounds := api.Bounds{Nonce: 10000, Seq: 7, Pin: 10000, Gen: 10000, Life: 10000, Epoch: 10000, Conn: 10000}
	if rnd.Intn(2) == 0 {
		bounds.Nonce = 25 + rnd.Intn(20)
	}
	return bounds
}

// small is bounds of which any may be met.
func small(rnd *rand.Rand) api.Bounds {
	n := func() int { return rnd.Intn(9) }
	return api.Bounds{Nonce: 1 + 3*n(), Seq: n(), Pin: 1 + n(), Gen: 1 + n(), Life: 1 + n(), Epoch: n() / 2, Conn: n()}
}

// newSaga is a world of such bounds.
func newSaga(t *testing.T, seed int64, ideal, edits bool, of func(rnd *rand.Rand) api.Bounds, saw map[string]int) *saga {
	rnd := rand.New(rand.NewSource(seed))
	bounds := of(rnd)
	most := []int{500, 1500, 40000}[rnd.Intn(3)]
	return &saga{twin: newTwin(t, bounds, most, ideal), rnd: rnd, bounds: bounds, most: most, edits: edits, saw: saw}
}

// begins asks that a state is what the first groups of the last server, so many or more than were told to last, make of what it began with.
func (s *saga) begins(ran []sess.Group) {
	s.Helper()
	got := show(s.w.State())
	for n := s.sure; n <= len(ran); n++ {
		st, e := store.Load(s.most, s.base)
		if e != api.OK {
			s.Fatal(e)
		}
		for _, g := range ran[:n] {
			sess.Replay(st, g)
		}
		st.Sweep(s.w.Now())
		if show(st.Dump()) == got {
			if n > s.sure {
				s.saw["more than was told"]++
			}
			if n < len(ran) {
				s.saw["less than was done"]++
			}
			return
		}
	}
	s.Fatalf("there is %s, of %v, of which %d last", got, ran, s.sure)
}

// talks holds what servers heard and told against what calls said and got.
func (s *saga) talks() {
	s.Helper()
	calls := s.w.Calls()
	told := map[int]bool{}
	for _, t := range s.w.Talks() {
		c := calls[t.Keys.Peer]
		if c.Keys != t.Keys || !c.Done || told[t.Keys.Peer] {
			s.Fatalf("a talk of %v, a call of %v", t.Keys, c.Keys)
		}
		told[t.Keys.Peer] = true
		if !bytes.HasPrefix(c.Said, t.Heard) || !bytes.HasPrefix(t.Told, c.Got) {
			s.Fatalf("%v: said %q, heard %q; told %q, got %q", t.Keys, c.Said, t.Heard, t.Told, c.Got)
		}
		if len(c.Got) > 0 {
			s.saw["got"]++
		}
	}
	for i, c := range calls {
		if c.Keys.Peer != i || !told[i] && len(c.Got) > 0 {
			s.Fatalf("the call %d has keys %v, and got %q", i, c.Keys, c.Got)
		}
	}
}

// befalls lets something befall the world, and asks what must hold.
func (s *saga) befalls(x api.Step) api.Errno {
	s.Helper()
	ran := s.w.Ran()
	e := s.step(x)
	s.saw[fmt.Sprint(x.Kind, " ", e)]++
	if e == api.OK && x.Kind == api.SBoot {
		s.begins(ran)
		s.base, s.sure = s.w.State(), 0
	}
	if e == api.OK && (x.Kind == api.SSync || x.Kind == api.SRewrite) {
		s.sure = len(s.w.Ran())
	}
	if s.w.Repeats() != 0 {
		s.Fatalf("%v: %d repeats", x, s.w.Repeats())
	}
	return e
}

// words is commands, of which most may be.
func (s *saga) words() []byte {
	pick := func(l string) string {
		words := strings.Split(l, " ")
		return words[s.rnd.Intn(len(words))]
	}
	var b []byte
	for range 1 + s.rnd.Intn(3) {
		key, number := pick("a b c k"), pick("0 1 2 5 -1 x")
		args := [][]string{{pick("MULTI EXEC EXEC DISCARD")}, {"WATCH", key}, {"SADD", "s", number, key}, {"SPOP", "s"}, {"PEXPIRE", key, number}, {"APPEND", key, strings.Repeat("x", s.rnd.Intn(90))}, {"RPUSH", "l", key}, {pick("GET DEL INCR"), key}, {"INCRBY", key, number}, {"SET", key, number}, {pick("FLUSHALL NOPE PING")}}
		b = append(b, resp.Command(args[s.rnd.Intn(len(args))])...)
	}
	if s.rnd.Intn(60) == 0 {
		b = append(b, "*x\r\n"...)
	}
	return b
}

// busy is a way on which something waits; 0, if there is none.
func (s *saga) busy() int {
	var ways []int
	for way := range 12 {
		if s.w.Waiting(way) > 0 {
			ways = append(ways, way)
		}
	}
	if len(ways) == 0 {
		return 0
	}
	return ways[s.rnd.Intn(len(ways))]
}

// any is any step at all.
func (s *saga) any() api.Step {
	x := api.Step{Kind: s.rnd.Intn(18), Who: s.rnd.Intn(8) - 1, Way: s.rnd.Intn(14) - 1, N: s.rnd.Intn(9) - 2, M: s.rnd.Intn(16) - 1, K: s.rnd.Intn(9) - 2, At: s.rnd.Intn(99) - 9, By: byte(s.rnd.Intn(4)), Cuts: []int{s.rnd.Intn(9), s.rnd.Intn(99)}}
	x.Text = make([]byte, s.rnd.Intn(40))
	s.rnd.Read(x.Text)
	if x.Kind == api.SPut || x.Kind == api.SEdit {
		x.Kind = api.SLose
	}
	return x
}

// next is what befalls the world next, while a server is up.
func (s *saga) next() api.Step {
	who := s.rnd.Intn(6)
	switch n := s.rnd.Intn(100); {
	case n < 40:
		x := bring(s.busy())
		x.N = s.rnd.Intn(50)
		return x
	case n < 65 && s.m.has[who] != nil:
		return api.Step{Kind: api.SSay, Who: who, Text: s.words()}
	case n < 70:
		return dial(who)
	case n < 71:
		return forge(2*who, append([]byte{1}, make([]byte, 24)...)...)
	case n < 80:
		return sync()
	case n < 82:
		return rewrite(s.rnd.Intn(4))
	case n < 85:
		return tick(s.rnd.Intn(4))
	case n < 87:
		return fuse(s.rnd.Intn(2 + s.rnd.Intn(25)))
	case n < 88:
		return s.crash()
	case n < 90:
		x := again(2*who+s.rnd.Intn(2), s.rnd.Intn(10), 0)
		if x.M = x.Way; s.rnd.Intn(4) == 0 {
			x.M = s.rnd.Intn(12)
		}
		x.At, x.By = s.rnd.Intn(80), byte(s.rnd.Intn(3))
		return x
	case n < 91:
		return lose(s.busy())
	case n < 92:
		return hang(who)
	case n < 94:
		return s.tampers()
	case n < 95:
		return keep()
	}
	return s.any()
}

// crash is a crash that leaves anything.
func (s *saga) crash() api.Step {
	return crash(s.rnd.Intn(100), s.rnd.Intn(2000), s.rnd.Intn(300), s.rnd.Intn(300))
}

// tampers is a step that edits files, if that may be.
func (s *saga) tampers() api.Step {
	if !s.edits {
		return keep()
	}
	n, m := s.rnd.Intn(30), s.rnd.Intn(3)
	switch s.rnd.Intn(5) {
	case 0:
		return put(n)
	case 1:
		return putOne(n, m)
	case 2:
		return edit(m, string(s.words()))
	case 3:
		f := s.w.Files()
		if len(f) == 0 {
			return keep()
		}
		text := f[m%len(f)].Data
		if len(text) > 0 {
			text[s.rnd.Intn(len(text))] ^= 4
		}
		return edit(m, string(text))
	}
	return cut(m, s.rnd.Intn(1000)*2+1)
}

// rises lets a server be up again, behind whatever.
func (s *saga) rises() {
	s.Helper()
	s.befalls(s.crash())
	s.befalls(keep())
	sound := len(s.m.past) - 1
	if s.edits && s.rnd.Intn(2) == 0 {
		for range 1 + s.rnd.Intn(3) {
			s.befalls(s.tampers())
		}
	}
	if s.rnd.Intn(3) == 0 {
		s.befalls(fuse(s.rnd.Intn(25)))
	}
	e := s.befalls(boot())
	s.lost = e == api.ESPENT
	if e != api.OK && e != api.EDOWN && (e != api.ETAMPER || !s.edits) && (e != api.ESPENT || s.bounds.Life > 10) {
		s.Fatalf("boot: %d", e)
	}
	if e == api.EDOWN && !s.edits && s.bounds.Life > 10 {
		s.befalls(s.crash())
		if e = s.befalls(boot()); e != api.OK {
			s.Fatalf("a boot behind one whose power went: %d", e)
		}
	}
	if e == api.ETAMPER {
		// The files of behind the crash are taken, unless somebody edited some ahead of it.
		s.befalls(s.crash())
		s.befalls(put(sound))
		e = s.befalls(boot())
		s.lost = e == api.ETAMPER
		s.saw[fmt.Sprint("put back ", e)]++
	}
}

// lives lets so many things befall the world.
func (s *saga) lives(steps int) {
	s.Helper()
	for range steps {
		if !s.w.Up() {
			s.rises()
			s.talks()
		}
		if s.lost {
			return
		}
		s.befalls(s.next())
	}
	s.talks()
}

// P26.2 to P26.6, P3 to P7: anything befalls a world.
func TestSaga(t *testing.T) {
	saw := map[string]int{}
	for seed := range int64(300) {
		newSaga(t, seed, seed%3 > 0, seed%2 == 0, deep, saw).lives(300)
	}
	want := []string{"more than was told", "less than was done", "got", "put back 0", "put back 11"}
	for _, kind := range []int{1, 2, 3, 4, 5, 6, 7, 8, 9, 10, 11, 12, 13, 14, 15, 16} {
		want = append(want, fmt.Sprint(kind, " 0"))
	}
	want = append(want, "0 1", "1 8", "1 11", "1 15", "5 1", "6 12", "7 6", "7 8", "7 9", "7 12", "7 14", "8 3", "8 6", "9 1", "9 9", "10 9", "11 8", "12 8", "13 12")
	for _, what := range want {
		if saw[what] < 10 {
			t.Errorf("the test is wrong: %d times %q: %v", saw[what], what, saw)
		}
	}
}

// P26.3 to P26.5, P7: likewise, where counters come to their bounds.
func TestSpent(t *testing.T) {
	saw := map[string]int{}
	for seed := range int64(400) {
		newSaga(t, seed, seed%3 > 0, seed%2 == 0, small, saw).lives(200)
	}
	for _, what := range []string{"1 0", "1 7", "1 8", "1 11", "6 7", "6 14", "7 7", "11 0", "11 7", "12 0", "12 7", "13 7"} {
		if saw[what] < 10 {
			t.Errorf("the test is wrong: %d times %q: %v", saw[what], what, saw)
		}
	}
}

// P26.6, P4: without edits each boot goes well, whenever power goes; and what was told to last is there.
func TestEachAct(t *testing.T) {
	both(t, func(t *testing.T, ideal bool) {
		for acts := 0; ; acts++ {
			if acts > 200 {
				t.Fatal("the power never stays")
			}
			whole := false
			for cut := range 3 {
				s := newSaga(t, int64(cut), ideal, false, deep, map[string]int{})
				s.befalls(boot())
				s.calls(0)
				s.befalls(fuse(acts))
				whole = s.works()
				for _, n := range []int{acts % 19, -1} {
					s.befalls(crash(cut*37, cut*61, cut*113, cut*11))
					s.befalls(fuse(n))
					if e := s.befalls(boot()); e != api.OK && (n < 0 || e != api.EDOWN) {
						t.Fatalf("act %d: boot %d", acts, e)
					}
					s.talks()
				}
			}
			if whole {
				if acts < 20 {
					t.Errorf("only %d acts", acts)
				}
				return
			}
		}
	})
}

// works lets a client work; false: power went.
func (s *saga) works() bool {
	s.Helper()
	steps := []api.Step{say(0, "SET a 1", "MULTI", "SET b 1", "INCR a", "EXEC"), bring(0), sync(), bring(1), say(0, "INCR a"), bring(0), rewrite(1), bring(1), say(0, "INCR a", "DEL b"), bring(0), sync(), say(0, "SET c 1"), bring(0)}
	for _, x := range steps {
		if e := s.befalls(x); e != api.OK {
			if e != api.EDOWN {
				s.Fatalf("%v: %d", x, e)
			}
			return false
		}
	}
	return true
}

// P26.3, P8: files of each time ahead, all or one of them, are put there: a boot tells ETAMPER, or what lasts is there.
func TestEachImage(t *testing.T) {
	both(t, func(t *testing.T, ideal bool) {
		told := map[api.Errno]int{}
		steps := []api.Step{boot(), dial(0), bring(0), bring(1), bring(0), say(0, "SET a 1"), bring(0), sync(), say(0, "INCR a"), bring(0), sync(), rewrite(0), say(0, "INCR a"), bring(0), sync(), rewrite(1), say(0, "INCR a"), bring(0), sync(), crash(), boot(), crash(0, 9)}
		for n := range len(steps) + 1 {
			for one := -1; one < 3; one++ {
				w := newTwin(t, wide(), 1000, ideal)
				for _, x := range steps {
					w.does(api.OK, keep(), x)
				}
				w.does(api.OK, keep())
				needed := w.w.Files()
				if one < 0 {
					w.does(api.OK, put(n))
				} else if len(w.m.past[n]) > 0 {
					w.does(api.OK, putOne(n, one))
				}
				want := api.OK
				for _, f := range needed {
					if !bytes.Equal(data(w.w.Files(), f.Name), f.Data) {
						want = api.ETAMPER
					}
				}
				told[want]++
				w.does(want, boot())
				if want == api.OK {
					w.holds("a=4")
				}
			}
		}
		if told[api.OK] < 20 || told[api.ETAMPER] < 40 {
			t.Errorf("the test is wrong: %v", told)
		}
	})
}
