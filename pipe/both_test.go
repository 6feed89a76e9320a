package pipe_test

import (
	"bytes"
	"fmt"
	"math/rand"
	"slices"
	"testing"

	"intaglio/api"
	"intaglio/shake"
	"intaglio/wire"
)

// P23.4: what is sealed is opened, as long as there are numbers, across all epochs, both ways at once, however far one side is ahead.
func TestBoth(t *testing.T) {
	both(t, func(t *testing.T, ideal bool) {
		for seed := range int64(30) {
			rnd := rand.New(rand.NewSource(seed))
			seq, epoch := 1+rnd.Intn(5), rnd.Intn(6)
			w := newTwin(t, ideal, of(seq, epoch))
			var under [2][][]byte
			var texts [2][]string
			for opened := 0; opened < 2*seq*(epoch+1); {
				side := rnd.Intn(2)
				if n := len(under[side]); n > 0 && rnd.Intn(2) == 0 {
					w.ends[1-side].opens(under[side][0], texts[side][0])
					under[side], texts[side] = under[side][1:], texts[side][1:]
					opened++
					continue
				}
				text := someText(rnd)
				frame, e := w.ends[side].seal(text)
				if e == api.OK {
					under[side], texts[side] = append(under[side], frame), append(texts[side], string(text))
				} else if out, _ := w.ends[side].p.Counts(); e != api.ESPENT || out != seq*(epoch+1) {
					t.Fatalf("%d behind %d frames", e, out)
				}
			}
			for side, x := range w.ends {
				if out, in := x.p.Counts(); out != seq*(epoch+1) || in != out {
					t.Errorf("side %d: %d, %d", side, out, in)
				}
				x.refuses("behind the last one", nil, api.ESPENT)
			}
			if w.got.Repeats() != 0 {
				t.Errorf("%d repeats", w.got.Repeats())
			}
		}
	})
}

// P23.4: many epochs, and many frames of one.
func TestManyFrames(t *testing.T) {
	both(t, func(t *testing.T, ideal bool) {
		for _, bounds := range []api.Bounds{of(1, 600), of(600, 1), of(7, 99), of(most, most)} {
			w := newTwin(t, ideal, bounds)
			for n := range 600 {
				w.ends[1].opens(w.ends[0].sealed(fmt.Sprint(n)), fmt.Sprint(n))
			}
			if w.got.Repeats() != 0 || w.got.Sealed() != 600 {
				t.Errorf("%d sealed, %d repeats", w.got.Sealed(), w.got.Repeats())
			}
		}
	})
}

// storm is several pipes by one box, and all frames that ever went.
type storm struct {
	*twin
	rnd    *rand.Rand
	ends   []*end // of the pipe n the ends 2n and 2n + 1
	said   [][][]byte
	heard  [][][]byte
	frames [][]byte
	ways   [][][]byte // what an end sealed, that is under way
	saw    map[string]int
}

func newStorm(t *testing.T, seed int64, ideal bool) *storm {
	rnd := rand.New(rand.NewSource(seed))
	r := &storm{twin: newTwin(t, ideal, wide()), rnd: rnd}
	bounds := of(rnd.Intn(6), rnd.Intn(5))
	if rnd.Intn(3) == 0 {
		bounds = wide()
	}
	for n := range 3 {
		for side := range 2 {
			r.ends = append(r.ends, r.end(shake.Keys{Life: 1, Conn: n, Peer: 7 - n}, side, bounds))
		}
	}
	r.said, r.heard, r.ways = make([][][]byte, 6), make([][][]byte, 6), make([][][]byte, 6)
	return r
}

// frame is what somebody brings to an end: mostly what is under way to it, else any frame, doubled, turned, cut, left out, or none.
func (r *storm) frame(to int) []byte {
	way := &r.ways[to^1]
	if len(*way) > 0 && r.rnd.Intn(8) > 0 {
		frame := (*way)[0]
		*way = (*way)[1:]
		return frame
	}
	if len(r.frames) == 0 {
		return nil
	}
	frame := r.frames[r.rnd.Intn(len(r.frames))]
	switch r.rnd.Intn(5) {
	case 0:
		return wire.Turn(frame, r.rnd.Int(), byte(1+r.rnd.Intn(255)))
	case 1:
		return frame[:r.rnd.Intn(len(frame)+1)]
	case 2:
		if len(*way) > 1 {
			*way = (*way)[1:]
			return (*way)[0]
		}
	}
	return frame
}

// step is a call of any end.
func (r *storm) step() {
	r.Helper()
	n := r.rnd.Intn(len(r.ends))
	x := r.ends[n]
	switch k := r.rnd.Intn(40); {
	case k == 0:
		frame, e := x.close()
		r.sent(n, "close", frame, e)
	case k == 1:
		_, e := x.seal(filled(60001))
		r.saw[fmt.Sprint("long ", e)]++
	case k < 20:
		text := someText(r.rnd)
		frame, e := x.seal(text)
		r.sent(n, "seal", frame, e)
		if e == api.OK {
			r.said[n] = append(r.said[n], text)
		}
	case r.rnd.Intn(10) == 0 || len(r.ways[n^1]) > 0:
		text, e := x.open(r.frame(n))
		r.saw[fmt.Sprint("open ", e)]++
		if e == api.OK {
			r.heard[n] = append(r.heard[n], text)
		}
	}
}

// sent puts what a call sealed under way.
func (r *storm) sent(n int, what string, frame []byte, e api.Errno) {
	r.saw[fmt.Sprint(what, " ", e)]++
	if e == api.OK {
		r.frames, r.ways[n] = append(r.frames, frame), append(r.ways[n], frame)
	}
}

// begins asks whether what each end heard are the first texts that the other one said.
func (r *storm) begins() {
	r.Helper()
	for n, heard := range r.heard {
		said := r.said[n^1]
		if len(heard) > len(said) || !slices.EqualFunc(heard, said[:len(heard)], bytes.Equal) {
			r.Fatalf("end %d heard %q, of %q", n, heard, said)
		}
	}
}

// P23.3, P23.5, P5, P7: whatever frames come, what an end opened are the first texts that the other one sealed, in order, each once; and nothing is sealed twice with one number, whatever an end does.
func TestPrefix(t *testing.T) {
	saw := map[string]int{}
	for seed := range int64(400) {
		r := newStorm(t, seed, seed%5 > 0)
		r.saw = saw
		for range 150 {
			r.step()
			r.begins()
			if r.got.Repeats() != 0 {
				t.Fatalf("seed %d: %d repeats", seed, r.got.Repeats())
			}
		}
	}
	for _, what := range []string{"seal 0", "seal 7", "seal 14", "open 0", "open 6", "open 7", "open 14", "close 0", "close 7", "close 14", "long 5", "long 14"} {
		if saw[what] < 100 {
			t.Errorf("not all was tried: %v", saw)
		}
	}
}

// P5: by keys that two agreed on texts go, both ways; by those of another talk none.
func TestBehindAnAgreement(t *testing.T) {
	both(t, func(t *testing.T, ideal bool) {
		w := newTwin(t, ideal, wide())
		agree := func(conn int) (c, s shake.Keys) {
			client, hello, _ := shake.Dial(w.got, conn, [16]byte{1})
			server, answer, _ := shake.Accept(w.got, 3, conn, [16]byte{2}, hello)
			finish, c, _ := client.Answer(answer)
			s, e := server.Finish(finish)
			w.tells("agree", e, api.OK)
			return c, s
		}
		c, s := agree(0)
		c2, s2 := agree(1)
		x, y := w.end(c, 0, wide()), w.end(s, 1, wide())
		x2, y2 := w.end(c2, 0, wide()), w.end(s2, 1, wide())
		y.opens(x.sealed("a"), "a")
		x.opens(y.sealed("b"), "b")
		y2.opens(x2.sealed("c"), "c")
		y2.refuses("of another talk", x.sealed("d"), api.EAUTH)
		x2.refuses("of its own side", x2.sealed("e"), api.EAUTH)
	})
}
