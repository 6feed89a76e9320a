package vault_test

import (
	"bytes"
	"fmt"
	"math/rand"
	"slices"
	"strings"
	"testing"

	"intaglio/api"
)

// saga is a vault's lives, one behind the other: what it was told, and what of that must last.
type saga struct {
	*twin
	rnd   *rand.Rand
	all   [][]byte     // what was added since the last vault that began, behind what it began with
	last  int          // how many of these were told to last
	alive bool         // whether the vault began, and has not ended
	count int          // how many commands were ever added
	past  [][]api.File // files as they ever were
	turns []int        // how many of past there were at each rewrite that turned
	saw   map[string]int
}

func newSaga(t *testing.T, seed int64, ideal bool) *saga {
	bounds := wide()
	rnd := rand.New(rand.NewSource(seed))
	bounds.Nonce = 3 + rnd.Intn(20)
	return &saga{twin: newTwin(t, ideal, bounds), rnd: rnd, saw: map[string]int{}}
}

// keep remembers the files as they are.
func (s *saga) keep() { s.past = append(s.past, s.files()) }

// begins asks whether all begins with what was found, and that has all that was told to last.
func (s *saga) begins(found [][]byte) {
	s.Helper()
	if len(found) < s.last || len(found) > len(s.all) || !same(found, s.all[:len(found)]) {
		s.Fatalf("found %q, told %q, of which %d last", found, s.all, s.last)
	}
}

// rise boots, and begins with what is found; calm: nobody tampered.
func (s *saga) rise(calm bool) {
	s.Helper()
	s.alive = false
	found, e := s.found()
	switch e {
	case api.ETAMPER:
		s.saw["tampered"]++
		if calm {
			s.Fatalf("%s: tampered with", told(s.files()))
		}
		return
	case api.EDOWN:
		return
	}
	s.tells("boot", e, api.OK)
	s.begins(found)
	s.saw["found"]++
	e = s.begin(found)
	s.saw[fmt.Sprint("begin ", e)]++
	switch e {
	case api.OK:
		s.alive, s.all, s.last = true, found, len(found)
	case api.ESPENT:
		// There are too many entries for so few nonces: the next lives have more.
		s.bounds.Nonce = wide().Nonce
	default:
		s.tells("begin", e, api.EDOWN)
	}
	s.keep()
}

// work is one call of a vault that goes on.
func (s *saga) work() {
	s.Helper()
	var e api.Errno
	switch s.rnd.Intn(6) {
	case 0:
		e = s.commit()
		if e == api.OK {
			s.last = len(s.all)
		}
		s.saw[fmt.Sprint("commit ", e)]++
	case 1:
		turn := s.rnd.Intn(2) == 0
		s.keep()
		e = s.rewrite(s.all, turn)
		if e == api.OK {
			s.last = len(s.all)
			if turn {
				s.turns = append(s.turns, len(s.past))
			}
		}
		s.saw[fmt.Sprint("rewrite ", e)]++
	default:
		rec := fmt.Sprint("command ", s.count, strings.Repeat(".", s.rnd.Intn(250)))
		s.count++
		e = s.add(rec)
		if e == api.OK {
			s.all = append(slices.Clone(s.all), []byte(rec))
		}
		s.saw[fmt.Sprint("add ", e)]++
	}
	s.alive = e == api.OK || e == api.ESPENT
	if s.rnd.Intn(3) == 0 {
		s.keep()
	}
}

// cuts are what a crash leaves of files.
func (s *saga) cuts() []int {
	var out []int
	for range s.rnd.Intn(8) {
		out = append(out, s.rnd.Intn(200))
	}
	return out
}

// tamper puts other files there: of before, edited, or under other names.
func (s *saga) tamper() {
	now := s.files()
	for range 1 + s.rnd.Intn(3) {
		past := s.past[s.rnd.Intn(len(s.past))]
		switch at := s.rnd.Intn(len(now) + 1); {
		case s.rnd.Intn(4) == 0:
			now = slices.Clone(past)
		case at < len(now) && s.rnd.Intn(3) == 0:
			now = slices.Delete(slices.Clone(now), at, at+1)
		case at < len(now) && len(now[at].Data) > 0 && s.rnd.Intn(3) == 0:
			f := api.File{Name: now[at].Name, Data: bytes.Clone(now[at].Data)}
			if s.rnd.Intn(2) == 0 {
				f.Data[s.rnd.Intn(len(f.Data))] ^= 1 << s.rnd.Intn(8)
			} else {
				f.Data = f.Data[:s.rnd.Intn(len(f.Data))]
			}
			now = append(without(now, f.Name), f)
		case len(past) > 0:
			f := past[s.rnd.Intn(len(past))]
			if at < len(now) && s.rnd.Intn(3) == 0 {
				f.Name = now[at].Name
			}
			now = append(without(now, f.Name), f)
		}
	}
	s.load(now)
}

// P3, P4, P21.6, P21.7: without edits no boot tells that somebody tampered, whenever power goes; what lasts is there, and nothing is sealed twice.
func TestCalm(t *testing.T) {
	saw := map[string]int{}
	for seed := range int64(200) {
		s := newSaga(t, seed, seed%10 > 0)
		s.saw = saw
		for range 12 {
			if s.rnd.Intn(3) > 0 {
				s.fuse(s.rnd.Intn(40))
			}
			s.rise(true)
			for s.alive && s.rnd.Intn(25) > 0 {
				s.work()
			}
			s.crash(s.cuts()...)
		}
		if n := s.got.b.Repeats(); n != 0 {
			t.Fatalf("seed %d: %d repeats", seed, n)
		}
	}
	for _, what := range []string{"found", "begin 7", "begin 8", "commit 0", "commit 8", "rewrite 0", "rewrite 7", "rewrite 8", "add 0", "add 7", "add 8"} {
		if saw[what] < 20 {
			t.Errorf("not all was tried: %v", saw)
		}
	}
	if saw["tampered"] > 0 {
		t.Errorf("%v", saw)
	}
}

// P3, P21.5, P21.7: of an ideal box, whatever files are put in the place of these, also while a vault goes on: that is told, or all is found that was committed, and behind it what was added next, without a gap; nothing is sealed twice.
func TestKept(t *testing.T) {
	saw := map[string]int{}
	for seed := range int64(400) {
		s := newSaga(t, seed, true)
		s.saw = saw
		s.rise(true)
		for range 8 {
			if s.rnd.Intn(2) == 0 {
				s.fuse(s.rnd.Intn(40))
			}
			for s.alive && s.rnd.Intn(12) > 0 {
				if s.rnd.Intn(20) == 0 {
					s.tamper()
				}
				s.work()
			}
			s.keep()
			s.crash(s.cuts()...)
			s.keep()
			left := s.files()
			for range 6 {
				s.tamper()
				if s.rnd.Intn(4) == 0 {
					s.fuse(s.rnd.Intn(15))
				}
				s.rise(false)
				if s.alive {
					break
				}
				s.crash(s.cuts()...)
				s.keep()
			}
			if !s.alive && s.rnd.Intn(2) == 0 {
				// Put back as no crash leaves them any more, if a Begin came on the way: tampered with, or as they were.
				s.load(left)
				s.rise(false)
			}
		}
		if n := s.got.b.Repeats(); n != 0 {
			t.Fatalf("seed %d: %d repeats", seed, n)
		}
	}
	for _, what := range []string{"tampered", "found", "begin 7", "begin 8", "commit 0", "commit 9", "rewrite 0", "add 0", "add 9"} {
		if saw[what] < 20 {
			t.Errorf("not all was tried: %v", saw)
		}
	}
}

// P8, P21.8: behind a rewrite that turns, files of before are told: each set of them that ever was, all of them put back, or some in the place of the new ones.
func TestTurn(t *testing.T) {
	both(t, func(t *testing.T, ideal bool) {
		w := newTwin(t, ideal, wide())
		var past [][]api.File
		keep := func() { past = append(past, w.files()) }
		w.begun(texts("a"))
		keep()
		for _, rec := range []string{"b", "c"} {
			w.add(rec)
			keep()
			w.commit()
			keep()
		}
		w.rewrite(texts("a", "b", "c"), false)
		keep()
		w.add("d")
		keep()
		w.tells("turn", w.rewrite(texts("a", "b", "c", "d"), true), api.OK)
		now := w.files()
		for _, f := range now {
			if f.Name == "head" && !bytes.Equal(f.Data[:8], num(1)) {
				t.Errorf("%x", f.Data)
			}
		}
		for i, old := range past {
			w.load(old)
			w.refuses(fmt.Sprint("all of ", i), api.ETAMPER)
			w.load(append(without(now, "head"), old...))
			w.refuses(fmt.Sprint("all of ", i, ", the new ones beside"), api.ETAMPER)
			for _, f := range old {
				for _, name := range []string{"head", "snap.1.3", "log.1.3"} {
					w.load(append(without(now, name), api.File{Name: name, Data: f.Data}))
					w.refuses(fmt.Sprint(f.Name, " of ", i, " as ", name), api.ETAMPER)
				}
			}
			w.load(append(without(old, "head"), now...))
			w.finds(texts("a", "b", "c", "d"), nil)
		}
	})
}

// P21.8: it holds behind crashes, in each life, and for all that was ahead of each turn.
func TestTurns(t *testing.T) {
	for seed := range int64(60) {
		s := newSaga(t, 1000+seed, seed%3 > 0)
		s.rise(true)
		for range 60 {
			if s.alive {
				s.work()
			}
			if s.rnd.Intn(10) == 0 || !s.alive {
				s.fuse(-1)
				s.crash(s.cuts()...)
				s.rise(true)
			}
		}
		now := s.files()
		for _, turn := range s.turns {
			for _, old := range s.past[:turn] {
				s.load(old)
				s.refuses("of before a turn", api.ETAMPER)
			}
		}
		s.load(now)
		s.rise(true)
	}
}
