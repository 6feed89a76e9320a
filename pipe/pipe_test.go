package pipe_test

import (
	"bytes"
	"fmt"
	"math"
	"testing"

	"intaglio/api"
	"intaglio/pipe"
	"intaglio/shake"
)

// P23.1: there are ends of the sides 0 and 1 alone.
func TestSides(t *testing.T) {
	both(t, func(t *testing.T, ideal bool) {
		w := newTwin(t, ideal, wide())
		for _, side := range append(wrongNumbers(), 2, 3, 255, 256, 1<<32, 1<<32+1) {
			for _, k := range []shake.Keys{{}, someKeys(), {Life: -1}} {
				if e := w.end(k, side, wide()); e.p != nil {
					t.Errorf("an end of the side %d", side)
				}
			}
		}
	})
}

// P23.1: keys of which an id may not be have no pipe; all others have.
func TestKeys(t *testing.T) {
	both(t, func(t *testing.T, ideal bool) {
		w := newTwin(t, ideal, wide())
		for side := range 2 {
			for _, n := range wrongNumbers() {
				for i := range 3 {
					k := someKeys()
					*[]*int{&k.Life, &k.Conn, &k.Peer}[i] = n
					if e := w.end(k, side, wide()); e.p != nil {
						t.Errorf("an end of %v", k)
					}
				}
			}
			for _, n := range []int{0, 1, 2, 1 << 32, most - 1, most} {
				for i := range 3 {
					k := someKeys()
					*[]*int{&k.Life, &k.Conn, &k.Peer}[i] = n
					x, y := w.end(k, side, wide()), w.end(k, 1-side, wide())
					y.opens(x.sealed("text"), "text")
					x.opens(y.sealed("text"), "text")
				}
			}
		}
		k := shake.Keys{Life: most, Conn: most, Peer: most}
		w.end(k, 1, wide()).opens(w.end(k, 0, wide()).sealed("text"), "text")
	})
}

// P23.1: a box that no call made has no pipe.
func TestNoBoxes(t *testing.T) {
	for what, b := range noBoxes() {
		for _, side := range []int{-1, 0, 1, 2} {
			for _, k := range []shake.Keys{{}, someKeys(), {Life: -1}} {
				if p := pipe.New(b, k, side, wide()); p != nil {
					t.Errorf("%s, %v, %d: %v", what, k, side, p)
				}
			}
		}
	}
}

// P23.1: a new end is up; nothing was sealed by it, nor opened, and New seals nothing.
func TestNew(t *testing.T) {
	both(t, func(t *testing.T, ideal bool) {
		for side := range 2 {
			b := newBox(ideal)
			p := pipe.New(b, someKeys(), side, wide())
			if out, in := p.Counts(); out != 0 || in != 0 || !p.Up() || b.Sealed() != 0 {
				t.Errorf("%d, %d, %v, %d", out, in, p.Up(), b.Sealed())
			}
		}
	})
}

// P23.1: a frame is a byte 4, and what the box seals of a byte 1 and the text, with the id and the number of its place.
func TestFrames(t *testing.T) {
	both(t, func(t *testing.T, ideal bool) {
		for side := range 2 {
			b, like := newBox(ideal), newBox(ideal)
			p := pipe.New(b, someKeys(), side, of(3, 9))
			for n := range 10 {
				text := fmt.Sprint("text ", n)
				frame, e := p.Seal([]byte(text))
				want, _ := like.Seal(idOf(n/3, side), n%3, nil, []byte("\x01"+text))
				if e != api.OK || !bytes.Equal(frame, append([]byte{4}, want...)) {
					t.Errorf("%d: %d, %x", n, e, frame)
				}
			}
			frame, e := p.Close()
			want, _ := like.Seal(idOf(3, side), 1, nil, []byte{2})
			if e != api.OK || !bytes.Equal(frame, append([]byte{4}, want...)) || len(frame) != 18 {
				t.Errorf("%d, %x", e, frame)
			}
		}
	})
}

// P23.1, P23.2: the chapter's example, and numbers that are reached and passed, by each side: so many frames there are, and no more.
func TestNumbers(t *testing.T) {
	both(t, func(t *testing.T, ideal bool) {
		for _, c := range []struct{ seq, epoch, frames int }{
			{2, 1, 4}, {1, 0, 1}, {1, 1, 2}, {1, 5, 6}, {2, 0, 2}, {3, 2, 9}, {5, 0, 5}, {4, -1, 4}, {4, math.MinInt, 4}, {4, -most, 4},
			{0, 0, 0}, {0, 5, 0}, {0, most, 0}, {-1, 5, 0}, {-1, -1, 0}, {math.MinInt, math.MaxInt, 0}, {-most, 3, 0},
		} {
			for side := range 2 {
				w := newTwin(t, ideal, of(c.seq, c.epoch))
				x, y := w.ends[side], w.ends[1-side]
				for n := range c.frames {
					y.opens(x.sealed(fmt.Sprint(n)), fmt.Sprint(n))
				}
				for range 3 {
					for _, n := range []int{0, 1, 60000} {
						_, e := x.seal(filled(n))
						w.tells("seal behind the last one", e, api.ESPENT)
					}
					_, e := x.seal(filled(60001))
					w.tells("a long text behind the last one", e, api.ELONG)
				}
				if !x.p.Up() {
					t.Error("closed by ESPENT of Seal")
				}
				if out, in := x.p.Counts(); out != c.frames || in != 0 {
					t.Errorf("%v: %d, %d", c, out, in)
				}
				// The other side has numbers of its own.
				for n := range c.frames {
					x.opens(y.sealed(fmt.Sprint(n)), fmt.Sprint(n))
				}
				last := x.m.out
				y.refuses("behind the last one", w.forge(idOf(c.frames, side), last, nil, []byte("\x01text")), api.ESPENT)
				_, e := x.close()
				w.tells("close behind the last one", e, api.ESPENT)
				x.over()
			}
		}
	})
}

// P23.1: bounds of 2^40 and above bind as that: no test comes to their end.
func TestWideBounds(t *testing.T) {
	both(t, func(t *testing.T, ideal bool) {
		for _, seq := range []int{most - 1, most, most + 1, math.MaxInt} {
			for _, epoch := range []int{0, most, most + 1, math.MaxInt} {
				w := newTwin(t, ideal, of(seq, epoch))
				for n := range 5 {
					w.ends[1].opens(w.ends[0].sealed(fmt.Sprint(n)), fmt.Sprint(n))
				}
				w = newTwin(t, ideal, of(1, epoch))
				for n := range 5 {
					if epoch > 0 || n == 0 {
						w.ends[0].opens(w.ends[1].sealed(fmt.Sprint(n)), fmt.Sprint(n))
					}
				}
			}
		}
	})
}

// P23.2: a text has at most 60000 bytes; one of more changes nothing.
func TestLongTexts(t *testing.T) {
	both(t, func(t *testing.T, ideal bool) {
		w := newTwin(t, ideal, wide())
		x, y := w.ends[0], w.ends[1]
		for _, n := range []int{0, 1, 2, 15, 16, 17, 59999, 60000} {
			for _, more := range []int{60001, 60002, 65535, 65536, 65537, 1 << 20} {
				_, e := x.seal(filled(more))
				w.tells("a long text", e, api.ELONG)
			}
			frame := x.sealed(string(filled(n)))
			if len(frame) != 1+1+n+16 {
				t.Errorf("%d bytes of %d", len(frame), n)
			}
			y.opens(frame, string(filled(n)))
		}
	})
}

// P23.2: a close is opened as ECLOSED; behind it neither end seals or opens any more.
func TestClose(t *testing.T) {
	both(t, func(t *testing.T, ideal bool) {
		for side := range 2 {
			for ahead := range 4 {
				w := newTwin(t, ideal, of(2, 1000))
				x, y := w.ends[side], w.ends[1-side]
				for range ahead {
					y.opens(x.sealed("text"), "text")
				}
				late := y.sealed("late")
				frame, e := x.close()
				w.tells("close", e, api.OK)
				x.over(late, frame)
				y.refuses("a close", frame, api.ECLOSED)
				if out, in := x.p.Counts(); out != ahead+1 || in != 0 {
					t.Errorf("%d, %d", out, in)
				}
				if out, in := y.p.Counts(); out != 1 || in != ahead+1 {
					t.Errorf("%d, %d", out, in)
				}
			}
		}
	})
}

// P23.2: an end that has closed takes no frame of the other one, also none that was under way; what it sealed ahead is opened still.
func TestUnderWayBehindClose(t *testing.T) {
	both(t, func(t *testing.T, ideal bool) {
		w := newTwin(t, ideal, wide())
		x, y := w.ends[0], w.ends[1]
		first, second := x.sealed("first"), x.sealed("second")
		under := y.sealed("under way")
		frame, _ := x.close()
		x.refuses("under way", under, api.ECLOSED)
		y.opens(first, "first")
		y.opens(second, "second")
		y.refuses("a close", frame, api.ECLOSED)
	})
}

// P23.2: Close is the one frame of an end that has just one left, and is told ESPENT behind it; both close.
func TestCloseAtTheEnd(t *testing.T) {
	both(t, func(t *testing.T, ideal bool) {
		for side := range 2 {
			for _, c := range []struct{ seq, epoch, texts int }{{1, 0, 0}, {2, 0, 1}, {2, 1, 3}, {1, 3, 3}} {
				w := newTwin(t, ideal, of(c.seq, c.epoch))
				x, y := w.ends[side], w.ends[1-side]
				for range c.texts {
					y.opens(x.sealed("text"), "text")
				}
				frame, e := x.close()
				w.tells("the last frame", e, api.OK)
				x.over()
				y.refuses("a close", frame, api.ECLOSED)
				w = newTwin(t, ideal, of(c.seq, c.epoch))
				x = w.ends[side]
				for range c.texts + 1 {
					x.sealed("text")
				}
				_, e = x.close()
				w.tells("behind the last frame", e, api.ESPENT)
				x.over()
			}
		}
	})
}

// P23.2: ESPENT of the other side's numbers is told whatever the frame is, and closes.
func TestOpenBehindTheEnd(t *testing.T) {
	both(t, func(t *testing.T, ideal bool) {
		for side := range 2 {
			for _, frame := range [][]byte{nil, {4}, {5}, filled(100), filled(1 << 17)} {
				for _, seq := range []int{0, -1, 2} {
					w := newTwin(t, ideal, of(seq, 0))
					x, y := w.ends[side], w.ends[1-side]
					var last []byte
					for range max(seq, 0) {
						last = x.sealed("text")
						y.opens(last, "text")
					}
					if seq == 2 && frame == nil {
						y.refuses("the last one again", last, api.ESPENT)
					} else {
						y.refuses("any frame", frame, api.ESPENT)
					}
				}
			}
		}
	})
}

// P23.2: what is no frame, or another one than the next, is EAUTH, and closes.
func TestNoFrames(t *testing.T) {
	both(t, func(t *testing.T, ideal bool) {
		for what, frame := range map[string]func(x, y *end) []byte{
			"no byte":        func(x, y *end) []byte { return nil },
			"an empty one":   func(x, y *end) []byte { return []byte{} },
			"a byte":         func(x, y *end) []byte { return []byte{4} },
			"bytes":          func(x, y *end) []byte { return filled(40) },
			"sealed bytes 0": func(x, y *end) []byte { return append([]byte{4}, make([]byte, 21)...) },
			"of no mark":     func(x, y *end) []byte { return x.sealed("text")[:16] },
			"cut":            func(x, y *end) []byte { f := x.sealed("text"); return f[:len(f)-1] },
			"cut ahead":      func(x, y *end) []byte { return x.sealed("text")[1:] },
			"a byte more":    func(x, y *end) []byte { return append(x.sealed("text"), 0) },
			"a byte ahead":   func(x, y *end) []byte { return append([]byte{4}, x.sealed("text")...) },
			"one left out":   func(x, y *end) []byte { x.sealed("text"); return x.sealed("text") },
			"a whole epoch":  func(x, y *end) []byte { x.sealed("a"); x.sealed("b"); x.sealed("c"); return x.sealed("d") },
			"doubled":        func(x, y *end) []byte { f := x.sealed("text"); y.opens(f, "text"); return f },
			"of its own":     func(x, y *end) []byte { return y.sealed("text") },
			"a close beside": func(x, y *end) []byte { x.sealed("text"); f, _ := x.close(); return f },
			"its own close":  func(x, y *end) []byte { f, _ := x.w.end(someKeys(), y.m.side, of(3, 9)).close(); return f },
			"of another life": func(x, y *end) []byte {
				return x.w.end(shake.Keys{Life: 11, Conn: 13, Peer: 14}, x.m.side, of(3, 9)).sealed("text")
			},
			"of another conn": func(x, y *end) []byte {
				return x.w.end(shake.Keys{Life: 12, Conn: 14, Peer: 14}, x.m.side, of(3, 9)).sealed("text")
			},
			"of another peer": func(x, y *end) []byte {
				return x.w.end(shake.Keys{Life: 12, Conn: 13, Peer: 13}, x.m.side, of(3, 9)).sealed("text")
			},
			"too long":     func(x, y *end) []byte { return append([]byte{4}, filled(api.MaxSealed+17)...) },
			"far too long": func(x, y *end) []byte { return append([]byte{4}, filled(1<<20)...) },
		} {
			for side := range 2 {
				for _, ahead := range []int{0, 1, 3, 4} {
					t.Run(fmt.Sprint(what, side, ahead), func(t *testing.T) {
						w := newTwin(t, ideal, of(3, 9))
						x, y := w.ends[side], w.ends[1-side]
						for range ahead {
							y.opens(x.sealed("ahead"), "ahead")
						}
						y.refuses(what, frame(x, y), api.EAUTH)
						if _, in := y.p.Counts(); in != ahead && what != "doubled" {
							t.Errorf("%d opened", in)
						}
					})
				}
			}
		}
	})
}

// P23.2: a frame of which any bit is turned is another one, be it a text's or a close's.
func TestTurnedFrames(t *testing.T) {
	both(t, func(t *testing.T, ideal bool) {
		for side := range 2 {
			for _, close := range []bool{false, true} {
				for bit := range 8 * 22 {
					w := newTwin(t, ideal, wide())
					x, y := w.ends[side], w.ends[1-side]
					y.opens(x.sealed("first"), "first")
					var frame []byte
					if close {
						frame, _ = x.close()
					} else {
						frame = x.sealed("text")
					}
					if bit >= 8*len(frame) {
						continue
					}
					frame[bit/8] ^= 1 << (bit % 8)
					y.refuses("turned", frame, api.EAUTH)
				}
			}
		}
	})
}

// P23.1, P23.2: the first byte of a frame is 4, whatever is sealed behind it.
func TestFirstByteOfFrames(t *testing.T) {
	both(t, func(t *testing.T, ideal bool) {
		for first := range 256 {
			w := newTwin(t, ideal, wide())
			frame := w.ends[0].sealed("text")
			frame[0] = byte(first)
			if first == 4 {
				w.ends[1].opens(frame, "text")
			} else {
				w.ends[1].refuses("another first byte", frame, api.EAUTH)
			}
		}
	})
}

// P23.1, P23.2: what who has the key sealed as the next one, but in another form, is no such frame: ahead of a text stands a byte 1, and a close is a byte 2 alone.
func TestOtherKinds(t *testing.T) {
	both(t, func(t *testing.T, ideal bool) {
		for side := range 2 {
			try := func(content string) (*end, []byte) {
				w := newTwin(t, ideal, of(3, 9))
				x, y := w.ends[side], w.ends[1-side]
				for range 4 {
					y.opens(x.sealed("ahead"), "ahead")
				}
				return y, w.forge(idOf(1, side), 1, nil, []byte(content))
			}
			for kind := range 256 {
				for _, text := range []string{"", "\x01", "\x02", "text", "\x01text"} {
					y, frame := try(string([]byte{byte(kind)}) + text)
					switch {
					case kind == 1:
						y.opens(frame, text)
					case kind == 2 && text == "":
						y.refuses("a close", frame, api.ECLOSED)
					default:
						y.refuses("another kind", frame, api.EAUTH)
					}
				}
			}
			y, frame := try("")
			y.refuses("nothing sealed", frame, api.EAUTH)
			// Open asks for no length of a text but the box's.
			y, frame = try("\x01" + string(filled(api.MaxSealed-1)))
			y.opens(frame, string(filled(api.MaxSealed-1)))
		}
	})
}

// P23.1, P23.2: what was sealed with another id, another number, or something beside, does not open.
func TestOtherPlaces(t *testing.T) {
	both(t, func(t *testing.T, ideal bool) {
		for side := range 2 {
			try := func(what string, id api.KeyID, n int, ad []byte, want api.Errno) {
				t.Helper()
				w := newTwin(t, ideal, of(3, 9))
				for range 4 {
					w.ends[1-side].opens(w.ends[side].sealed("ahead"), "ahead")
				}
				_, e := w.ends[1-side].open(w.forge(id, n, ad, []byte("\x01text")))
				w.tells(what, e, want)
			}
			try("the right one", idOf(1, side), 1, nil, api.OK)
			for i := range 6 {
				id := idOf(1, side)
				if i == 0 {
					id.Label = api.KFinish
				} else {
					*[]*int{&id.Epoch, &id.Life, &id.Num, &id.Side, &id.Peer}[i-1] ^= 1
				}
				try("another id", id, 1, nil, api.EAUTH)
			}
			for _, n := range []int{0, 2, 3, 4, 5, most} {
				try("another number", idOf(1, side), n, nil, api.EAUTH)
			}
			for _, ad := range []string{"\x00", "\x01", "\x04", "text"} {
				try("something beside", idOf(1, side), 1, []byte(ad), api.EAUTH)
			}
		}
	})
}

// P23.2: an end whose own numbers are spent opens still.
func TestSpentAndOpening(t *testing.T) {
	both(t, func(t *testing.T, ideal bool) {
		w := newTwin(t, ideal, of(2, 0))
		x, y := w.ends[0], w.ends[1]
		x.sealed("a")
		x.sealed("b")
		_, e := x.seal(nil)
		w.tells("spent", e, api.ESPENT)
		x.opens(y.sealed("c"), "c")
		frame, _ := y.close()
		x.refuses("a close", frame, api.ECLOSED)
	})
}

// Rule 6, P23.2: a pipe that New did not make.
func TestNoPipes(t *testing.T) {
	w := newTwin(t, true, wide())
	right := w.ends[0].sealed("text")
	for what, p := range noPipes() {
		for range 2 {
			for _, n := range []int{0, 1, 60000, 60001} {
				if f, e := p.Seal(filled(n)); len(f) != 0 || e != api.ENIL {
					t.Errorf("%s: %x, %d", what, f, e)
				}
			}
			for _, frame := range [][]byte{nil, {4}, right} {
				if text, e := p.Open(frame); len(text) != 0 || e != api.ENIL {
					t.Errorf("%s: %x, %d", what, text, e)
				}
			}
			if f, e := p.Close(); len(f) != 0 || e != api.ENIL {
				t.Errorf("%s: %x, %d", what, f, e)
			}
			if out, in := p.Counts(); p.Up() || out != 0 || in != 0 {
				t.Errorf("%s: %v, %d, %d", what, p.Up(), out, in)
			}
		}
	}
}

// P23.2: a box that is none any more seals and opens nothing; no number is counted by it.
func TestBoxGone(t *testing.T) {
	b := newBox(true)
	p, q := pipe.New(b, someKeys(), 0, wide()), pipe.New(b, someKeys(), 1, wide())
	frame, _ := p.Seal([]byte("text"))
	*b = *noBoxes()["zero"]
	if f, e := p.Seal([]byte("text")); len(f) != 0 || e != api.ENIL || !p.Up() {
		t.Errorf("%x, %d", f, e)
	}
	if text, e := q.Open(frame); len(text) != 0 || e != api.EAUTH || q.Up() {
		t.Errorf("%x, %d", text, e)
	}
	if f, e := p.Close(); len(f) != 0 || e != api.ENIL || p.Up() {
		t.Errorf("%x, %d", f, e)
	}
	if out, in := p.Counts(); out != 1 || in != 0 {
		t.Errorf("%d, %d", out, in)
	}
	if out, in := q.Counts(); out != 0 || in != 0 {
		t.Errorf("%d, %d", out, in)
	}
}

// Rules 3 and 4: nil and no bytes are one; what is handed in isn't changed, its spare room neither, nor kept; what is answered is new memory.
func TestMemory(t *testing.T) {
	both(t, func(t *testing.T, ideal bool) {
		w := newTwin(t, ideal, wide())
		x, y := w.ends[0], w.ends[1]
		empty, _ := x.seal([]byte{})
		y.opens(empty, "")
		y.opens(x.sealed(""), "")
		room := []byte("textroom")
		frame, e := x.seal(room[:4])
		w.tells("seal", e, api.OK)
		if string(room) != "textroom" {
			t.Errorf("%q", room)
		}
		clear(room)
		frames := append(bytes.Clone(frame), "room"...)
		clear(frame[:cap(frame)])
		ahead := bytes.Clone(frames)
		text, e := y.open(frames[:len(frame)])
		w.tells("open", e, api.OK)
		if string(text) != "text" || !bytes.Equal(frames, ahead) {
			t.Errorf("%q, %x, ahead %x", text, frames, ahead)
		}
		clear(text[:cap(text)])
		if !bytes.Equal(frames, ahead) {
			t.Errorf("%x, ahead %x", frames, ahead)
		}
		// What was answered and spoilt is not what the box has.
		sealed := bytes.Clone(frames[1:len(frame)])
		if content, e := w.got.Open(idOf(0, 0), 2, nil, sealed); e != api.OK || string(content) != "\x01text" {
			t.Errorf("%d, %q", e, content)
		}
	})
}
