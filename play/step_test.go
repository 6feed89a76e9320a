package play_test

import (
	"math"
	"testing"

	"intaglio/api"
	"intaglio/play"
)

// notMade is worlds that New did not make.
func notMade() map[string]*play.World {
	return map[string]*play.World{"nil": nil, "new": new(play.World), "zero": {}}
}

// P26.1: kinds that are none.
func TestKinds(t *testing.T) {
	w := booted(t, wide(), true)
	for _, kind := range []int{0, -1, 17, 18, 100, math.MinInt, math.MaxInt} {
		w.does(api.EARG, api.Step{Kind: kind}, api.Step{Kind: kind, Who: 1, Way: 1, N: 1, M: 1, K: 1, At: 1, By: 1, Text: []byte{1}, Cuts: []int{1}})
	}
}

// P26.1: a client that is none, where one is used; where none is used, it is not asked.
func TestWho(t *testing.T) {
	for _, up := range []bool{true, false} {
		for _, who := range []int{-1, 6, 7, math.MinInt, math.MaxInt} {
			w := newTwin(t, wide(), 1000, true)
			if up {
				w.does(api.OK, boot())
				w.calls(0, 5)
			}
			w.does(api.EARG, dial(who), say(who, "PING"), hang(who))
			x := boot()
			x.Who = who
			want := api.OK
			if up {
				want = api.ETHERE
			}
			w.does(want, x)
			for _, x := range []api.Step{fuse(-1), tick(1), keep(), sync(), rewrite(0), crash(), {Kind: api.SPut}} {
				x.Who = who
				w.does(api.OK, x)
			}
			x = forge(0, 4)
			x.Who = who
			w.does(api.ESTATE, x)
		}
	}
}

// P26.1: a boot of a server that is up, of one that is down, and one with an error.
func TestBoot(t *testing.T) {
	both(t, func(t *testing.T, ideal bool) {
		w := booted(t, wide(), ideal)
		w.does(api.ETHERE, boot(), boot())
		w.calls(0)
		w.says(0, "SET k 1")
		w.synced(0)
		w.says(0, "SET k 2")
		w.does(api.OK, fuse(1))
		w.does(api.EDOWN, sync())
		// The server is down: it is there no more, but what it did, heard and told is.
		if w.w.Up() || len(w.w.State()) != 0 || len(w.w.Ran()) != 2 || len(w.w.Talks()) != 1 {
			t.Fatalf("up %v, %v, %v, %v", w.w.Up(), w.w.State(), w.w.Ran(), w.w.Talks())
		}
		w.does(api.ESTATE, sync(), rewrite(1), forge(0, 1), forge(0, 4))
		w.does(api.EDOWN, boot())
		w.does(api.OK, crash())
		if len(w.w.Ran()) != 2 {
			t.Errorf("%v", w.w.Ran())
		}
		w.does(api.OK, boot())
		if w.holds("k=1"); w.w.Life() != 2 || len(w.w.Ran()) != 0 || len(w.w.Talks()) != 1 {
			t.Errorf("life %d, %v, %v", w.w.Life(), w.w.Ran(), w.w.Talks())
		}
		// What the last one had is told also behind a server that did nothing.
		w.does(api.OK, crash())
		if len(w.w.Ran()) != 0 || len(w.w.Talks()) != 1 {
			t.Errorf("%v, %v", w.w.Ran(), w.w.Talks())
		}
	})
}

// P26.1: a server that is down by a frame is there no more.
func TestDownByFrame(t *testing.T) {
	both(t, func(t *testing.T, ideal bool) {
		w := booted(t, wide(), ideal)
		w.calls(0, 1)
		w.does(api.OK, say(0, "SET k 1", "SET k 2"), fuse(0))
		w.does(api.EDOWN, bring(0))
		if w.w.Up() || len(w.w.Ran()) != 1 || len(w.w.Talks()) != 2 || len(w.w.Talks()[0].Heard) == 0 {
			t.Errorf("up %v, %v, %v", w.w.Up(), w.w.Ran(), w.w.Talks())
		}
		// Another boot goes on.
		w.does(api.EDOWN, boot())
		w.does(api.OK, crash(), boot())
	})
}

// P26.1: errors of a boot.
func TestBootErrors(t *testing.T) {
	for _, x := range []struct {
		spend func(b *api.Bounds)
		boots int
	}{
		{func(b *api.Bounds) { b.Life = 0 }, 0}, {func(b *api.Bounds) { b.Life = 2 }, 2}, {func(b *api.Bounds) { b.Gen = 0 }, 0}, {func(b *api.Bounds) { b.Pin = -5 }, 0}, {func(b *api.Bounds) { b.Nonce = 0 }, 0},
	} {
		bounds := wide()
		x.spend(&bounds)
		w := newTwin(t, bounds, 1000, true)
		for range x.boots {
			w.does(api.OK, boot(), crash())
		}
		for range 3 {
			w.does(api.ESPENT, boot())
			if w.w.Up() {
				t.Error("a server is up")
			}
		}
	}
}

// P26.1: a boot is by the time, and by how much may be used.
func TestBootMost(t *testing.T) {
	for _, x := range []struct {
		most int
		want string
	}{{49, "+OK|"}, {50, "+OK|"}, {48, "-OOM no memory left|"}, {0, "-OOM no memory left|"}, {-1, "-OOM no memory left|"}, {math.MaxInt, "+OK|"}} {
		w := newTwin(t, wide(), x.most, false)
		w.does(api.OK, boot())
		w.calls(0)
		w.says(0, "SET k ")
		w.synced(0)
		w.got(0, x.want)
	}
}

// P26.1: cuts are a crash's; behind it there is no server, and power is on, without a fuse.
func TestCrash(t *testing.T) {
	both(t, func(t *testing.T, ideal bool) {
		for _, cut := range []int{0, 1, 50, 100000, -1} {
			w := booted(t, wide(), ideal)
			w.calls(0)
			w.says(0, "SET k 1", "SET k 2")
			f := w.w.Files()[1]
			loose := len(f.Data) - f.Kept
			if loose < 60 {
				t.Fatalf("%d bytes are not kept", loose)
			}
			w.does(api.OK, fuse(0), crash(9, cut))
			if n := len(w.w.Files()[1].Data) - f.Kept; n != int(uint64(cut)%uint64(loose+1)) {
				t.Errorf("cut %d of %d: %d", cut, loose, n)
			}
			if w.w.Up() || len(w.w.State()) != 0 {
				t.Error("a server is there")
			}
			w.does(api.OK, boot())
			w.holds()
		}
		w := newTwin(t, wide(), 1000, ideal)
		w.does(api.OK, crash(), crash(1, 2), fuse(3), crash(), boot(), crash(), crash(), boot())
	})
}

// P26.1: so many acts go on.
func TestFuse(t *testing.T) {
	for n := range 20 {
		w := newTwin(t, wide(), 1000, false)
		w.does(api.OK, fuse(n))
		if e := w.step(boot()); e != api.OK && e != api.EDOWN || (e == api.OK) != (n >= 12) {
			t.Errorf("%d acts: %d", n, e)
		}
		w.does(api.OK, crash(), fuse(n), fuse(-n-1), boot())
	}
}

// P26.1: time goes on, and the server's; never back, and never beyond its bound.
func TestTick(t *testing.T) {
	w := newTwin(t, wide(), 1000, false)
	for _, x := range [][2]int{{5, 5}, {0, 5}, {-1, 5}, {math.MinInt, 5}, {1, 6}} {
		w.does(api.OK, tick(x[0]))
		if w.w.Now() != x[1] {
			t.Fatalf("time %d, want %d", w.w.Now(), x[1])
		}
	}
	w.does(api.OK, boot())
	w.calls(0)
	w.says(0, "SET k 1 PX 4", "SET l 1 PX 5")
	w.synced(0)
	w.does(api.OK, tick(4))
	w.holds("l=1")
	// Time goes on without a server, too.
	w.does(api.OK, crash(), boot())
	w.holds("l=1")
	w.does(api.OK, crash(), tick(1), boot())
	w.holds()
	for _, n := range []int{api.MaxNum - 12, math.MaxInt, 1, api.MaxNum} {
		w.does(api.OK, tick(n))
	}
	if w.w.Now() != api.MaxNum {
		t.Errorf("time %d", w.w.Now())
	}
	w = newTwin(t, wide(), 1000, false)
	w.does(api.OK, boot(), tick(api.MaxNum-1))
	if w.does(api.OK, tick(0)); w.w.Now() != api.MaxNum-1 {
		t.Errorf("time %d", w.w.Now())
	}
	w.does(api.OK, tick(1), tick(1))
}

// P26.1: a server that boots late knows the time: what it does stands in groups of that.
func TestTimeOfGroups(t *testing.T) {
	w := newTwin(t, wide(), 1000, false)
	w.does(api.OK, tick(40), boot())
	w.calls(2)
	w.does(api.OK, say(2, "SADD s a b c"), api.Step{Kind: api.SBring, Way: 4, N: -9})
	w.does(api.OK, tick(2), say(2, "SPOP s"), api.Step{Kind: api.SBring, Way: 4, N: 7})
	w.synced(2)
	w.got(2, ":3|$1|b|")
	if r := w.w.Ran(); len(r) != 2 || r[0].Now != 40 || r[0].Draw != -9 || r[1].Now != 42 || r[1].Draw != 7 {
		t.Errorf("%v", r)
	}
}

// P26.1: each sync and rewrite sends on the ways of its clients; a number that is odd turns.
func TestLasts(t *testing.T) {
	both(t, func(t *testing.T, ideal bool) {
		for _, x := range []struct{ n, epoch int }{{0, 0}, {1, 1}, {2, 0}, {3, 1}, {-1, 1}, {-2, 0}, {-3, 1}, {math.MinInt, 0}, {math.MaxInt, 1}} {
			w := newTwin(t, wide(), 1000, ideal)
			w.does(api.ESTATE, sync(), rewrite(x.n))
			w.does(api.OK, boot())
			w.calls(0, 3, 5)
			for _, who := range []int{5, 0, 3} {
				w.says(who, "INCR k")
			}
			w.does(api.OK, rewrite(x.n))
			for way := range 12 {
				want := 0
				if way == 1 || way == 7 || way == 11 {
					want = 1
				}
				if w.w.Waiting(way) != want {
					t.Errorf("%d wait on the way %d", w.w.Waiting(way), way)
				}
			}
			w.does(api.OK, bring(1), bring(7), bring(11))
			w.got(5, ":1|")
			w.got(0, ":2|")
			w.got(3, ":3|")
			if head := w.w.Files()[0].Data; int(head[7]) != x.epoch || head[23] != 2 {
				t.Errorf("rewrite of %d: head %x", x.n, head[:24])
			}
			w.does(api.OK, crash())
			w.does(api.ESTATE, sync(), rewrite(x.n))
		}
	})
}

// P26.1: with an error nothing is sent.
func TestLastsErrors(t *testing.T) {
	for _, x := range []api.Step{sync(), rewrite(0), rewrite(1)} {
		for acts := range 3 {
			w := booted(t, wide(), true)
			w.calls(0, 1)
			w.says(0, "SET k 1")
			w.says(1, "SET k 2")
			w.does(api.OK, fuse(acts))
			w.does(api.EDOWN, x)
			if w.w.Waiting(1)+w.w.Waiting(3) != 0 || w.w.Up() {
				t.Errorf("%v: frames are under way", x)
			}
			w.does(api.ESTATE, x)
		}
	}
	bounds := wide()
	bounds.Gen, bounds.Pin = 1, 2
	w := booted(t, bounds, true)
	w.calls(0)
	w.says(0, "SET k 1")
	w.does(api.ESPENT, rewrite(0), rewrite(1))
	w.does(api.OK, sync())
	w.says(0, "SET k 2")
	w.does(api.ESPENT, sync())
	if !w.w.Up() {
		t.Error("the server is down")
	}
}
