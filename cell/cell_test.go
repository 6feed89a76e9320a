package cell_test

import (
	"math"
	"math/rand"
	"testing"

	"intaglio/api"
	"intaglio/cell"
	"intaglio/disk"
)

const most = 1 << 40

func pin(life, num int) api.Pin { return api.Pin{Life: life, Num: num} }

// plugged is a cell of these bounds, and its power. The other bounds are 0: none of them is asked.
func plugged(life, num int) (*cell.Cell, *disk.Power) {
	p := disk.Plug()
	return cell.New(p, api.Bounds{Life: life, Pin: num}), p
}

// born is a cell of great bounds in its n-th life, and its power.
func born(t *testing.T, n int) (*cell.Cell, *disk.Power) {
	t.Helper()
	c, p := plugged(most, most)
	for i := range n {
		birth(t, c, i+1, api.OK)
	}
	return c, p
}

// is asks for a cell's life and pin.
func is(t *testing.T, c *cell.Cell, life int, p api.Pin) {
	t.Helper()
	if c.Life() != life || c.Pin() != p {
		t.Errorf("life %d, pin %v, want %d, %v", c.Life(), c.Pin(), life, p)
	}
}

// birth asks what Birth tells; with an error nothing has changed.
func birth(t *testing.T, c *cell.Cell, want int, wantE api.Errno) {
	t.Helper()
	life, p := c.Life(), c.Pin()
	if got, e := c.Birth(); got != want || e != wantE {
		t.Errorf("birth: %d, %d, want %d, %d", got, e, want, wantE)
	}
	if wantE == api.OK {
		life++
	}
	is(t, c, life, p)
}

// raise asks what Raise tells; with an error nothing has changed.
func raise(t *testing.T, c *cell.Cell, p api.Pin, want api.Errno) {
	t.Helper()
	life, now := c.Life(), c.Pin()
	if e := c.Raise(p); e != want {
		t.Errorf("raise of %v at life %d, pin %v: %d, want %d", p, life, now, e, want)
	}
	if want == api.OK {
		now = p
	}
	is(t, c, life, now)
}

// P10.1: a pin is less if its life is, or if that is the same and its number is.
func TestLess(t *testing.T) {
	numbers := []int{math.MinInt, -most, -1, 0, 1, 2, most, math.MaxInt}
	for i, a := range numbers {
		for j, b := range numbers {
			for k, c := range numbers {
				for l, d := range numbers {
					want := i < k || i == k && j < l
					if got := cell.Less(pin(a, b), pin(c, d)); got != want {
						t.Errorf("%d.%d, %d.%d: %v, want %v", a, b, c, d, got, want)
					}
				}
			}
		}
	}
}

// P10.1: at first life and pin are 0, whatever the bounds.
func TestNew(t *testing.T) {
	for _, n := range []int{math.MinInt, -1, 0, 1, most, most + 1, math.MaxInt} {
		c, _ := plugged(n, n)
		is(t, c, 0, api.Pin{})
	}
}

// P10.2: the chapter's example.
func TestExample(t *testing.T) {
	c, _ := plugged(5, 5)
	birth(t, c, 1, api.OK)
	raise(t, c, pin(1, 1), api.OK)
	raise(t, c, pin(1, 1), api.EORDER)
}

// P10.2: so many lives are born, one more each, and not one more; a bound below 0 is 0.
func TestLifeAtItsBound(t *testing.T) {
	for bound, want := range map[int]int{math.MinInt: 0, -1: 0, 0: 0, 1: 1, 2: 2, 100: 100} {
		c, p := plugged(bound, most)
		for i := range want {
			birth(t, c, i+1, api.OK)
		}
		for range 3 {
			birth(t, c, 0, api.ESPENT)
		}
		// That it is spent is told ahead of the act's error, and is no act.
		p.Fuse(0)
		birth(t, c, 0, api.ESPENT)
		if !p.On() {
			t.Error("power went off")
		}
		p.Act()
		birth(t, c, 0, api.ESPENT)
	}
	for _, bound := range []int{most, most + 1, math.MaxInt} {
		c, _ := plugged(bound, 0)
		for i := range 1000 {
			birth(t, c, i+1, api.OK)
		}
	}
}

// P10.2: Birth is one act; with its error nothing has changed.
func TestBirthIsAnAct(t *testing.T) {
	for _, n := range []int{0, 1, 3} {
		c, p := plugged(most, most)
		p.Fuse(n)
		for i := range n {
			birth(t, c, i+1, api.OK)
		}
		for range 3 {
			birth(t, c, 0, api.EDOWN)
			if p.On() {
				t.Error("still on")
			}
		}
		p.Mend()
		birth(t, c, n+1, api.OK)
	}
}

// P10.2: a pin is raised to any that is greater, of any life up to this one.
func TestRaise(t *testing.T) {
	c, _ := born(t, 3)
	for _, p := range []api.Pin{pin(0, 1), pin(0, 2), pin(0, most), pin(1, 0), pin(1, 7), pin(3, 0), pin(3, 1), pin(3, most-1), pin(3, most)} {
		raise(t, c, p, api.OK)
		raise(t, c, p, api.EORDER)
	}
	raise(t, c, pin(4, 0), api.EORDER)
	birth(t, c, 4, api.OK)
	raise(t, c, pin(4, 0), api.OK)
	raise(t, c, pin(3, most), api.EORDER)
}

// P10.2: a pin that is not greater is refused, and so is one of a life above the life.
func TestRaiseInOrder(t *testing.T) {
	c, p := born(t, 3)
	raise(t, c, pin(2, 5), api.OK)
	p.Fuse(1)
	for _, p := range []api.Pin{{}, pin(2, 5), pin(2, 4), pin(2, 0), pin(1, 6), pin(1, most), pin(0, 5), pin(4, 0), pin(4, 6), pin(5, 5), pin(most, most), pin(math.MaxInt, 6)} {
		raise(t, c, p, api.EORDER)
	}
	// None of these was an act: one goes on still.
	raise(t, c, pin(2, 6), api.OK)
	raise(t, c, pin(2, 7), api.EDOWN)
	c, _ = born(t, 0)
	raise(t, c, pin(0, 0), api.EORDER)
	raise(t, c, pin(1, 0), api.EORDER)
	raise(t, c, pin(0, 1), api.OK)
}

// P10.2: numbers below 0 are told ahead of the order, of the bound and of power.
func TestRaiseBelowZero(t *testing.T) {
	for _, bound := range []int{0, 5, most} {
		c, p := plugged(2, bound)
		birth(t, c, 1, api.OK)
		wrong := []api.Pin{pin(-1, 0), pin(0, -1), pin(1, -1), pin(-1, -1), pin(-1, 1), pin(-1, most+1), pin(2, -1), pin(math.MaxInt, -1), pin(math.MinInt, 5), pin(1, math.MinInt)}
		p.Fuse(0)
		for _, wrong := range wrong {
			raise(t, c, wrong, api.EARG)
		}
		if !p.On() {
			t.Error("power went off")
		}
		p.Act()
		for _, wrong := range wrong {
			raise(t, c, wrong, api.EARG)
		}
	}
}

// P10.2: a number above its bound is told behind the order, ahead of power; a bound below 0 is 0, one above 2^40 that.
func TestRaiseAboveTheBound(t *testing.T) {
	for bound, want := range map[int]int{math.MinInt: 0, -1: 0, 0: 0, 1: 1, 5: 5, most - 1: most - 1, most: most, most + 1: most, math.MaxInt: most} {
		c, p := plugged(2, bound)
		birth(t, c, 1, api.OK)
		p.Fuse(0)
		for _, n := range []int{want + 1, want + 2, math.MaxInt} {
			raise(t, c, pin(1, n), api.ESPENT)
			raise(t, c, pin(0, n), api.ESPENT)
			raise(t, c, pin(2, n), api.EORDER)
		}
		if !p.On() {
			t.Error("power went off")
		}
		p.Act()
		raise(t, c, pin(1, want+1), api.ESPENT)
		p.Mend()
		raise(t, c, pin(1, want), api.OK)
		raise(t, c, pin(1, want+1), api.ESPENT)
		raise(t, c, pin(0, want+1), api.EORDER)
		birth(t, c, 2, api.OK)
		raise(t, c, pin(2, want+1), api.ESPENT)
		raise(t, c, pin(2, 0), api.OK)
	}
}

// P10.2: Raise is one act; with its error nothing has changed.
func TestRaiseIsAnAct(t *testing.T) {
	for _, n := range []int{0, 1, 3} {
		c, p := born(t, 1)
		p.Fuse(n)
		for i := range n {
			raise(t, c, pin(1, i+1), api.OK)
		}
		for range 3 {
			raise(t, c, pin(1, n+1), api.EDOWN)
			if p.On() {
				t.Error("still on")
			}
		}
		raise(t, c, c.Pin(), api.EORDER)
		p.Mend()
		raise(t, c, pin(1, n+1), api.OK)
	}
}

// P10.1: life and pin are told without power, and are no acts.
func TestToldWithoutPower(t *testing.T) {
	c, p := born(t, 2)
	raise(t, c, pin(1, 3), api.OK)
	p.Fuse(0)
	is(t, c, 2, pin(1, 3))
	if !p.On() {
		t.Error("power went off")
	}
	p.Act()
	is(t, c, 2, pin(1, 3))
}

// P10.1: each bound is its own: none of the others counts.
func TestOtherBounds(t *testing.T) {
	for _, n := range []int{-1, 0, 1, most} {
		p := disk.Plug()
		c := cell.New(p, api.Bounds{Nonce: n, Seq: n, Gen: n, Epoch: n, Conn: n, Life: 2, Pin: 3})
		birth(t, c, 1, api.OK)
		birth(t, c, 2, api.OK)
		birth(t, c, 0, api.ESPENT)
		raise(t, c, pin(2, 4), api.ESPENT)
		raise(t, c, pin(2, 3), api.OK)
	}
}

// P10.3: no crash changes a cell, and none of its disk's calls but by power.
func TestCrash(t *testing.T) {
	p := disk.Plug()
	c, d := cell.New(p, api.Bounds{Life: 5, Pin: 5}), disk.New(p)
	birth(t, c, 1, api.OK)
	raise(t, c, pin(1, 2), api.OK)
	p.Fuse(1)
	if e := d.Create("a"); e != api.OK {
		t.Fatal(e)
	}
	birth(t, c, 0, api.EDOWN)
	d.Crash([]int{1, 2})
	is(t, c, 1, pin(1, 2))
	birth(t, c, 2, api.OK)
	d.Load(nil)
	is(t, c, 2, pin(1, 2))
}

// plain is what is asked of a cell by the chapter's words, and its power.
type plain struct {
	bound api.Pin
	fuse  int // how many acts go on; below 0: power is off
}

// act is the error of an act, if none came ahead.
func (m *plain) act(e api.Errno) api.Errno {
	if e != api.OK {
		return e
	}
	if m.fuse--; m.fuse < 0 {
		m.fuse = -1
		return api.EDOWN
	}
	return api.OK
}

func (m *plain) birth(c *cell.Cell) (int, api.Errno) {
	e := api.OK
	if c.Life() == m.bound.Life {
		e = api.ESPENT
	}
	if e = m.act(e); e != api.OK {
		return 0, e
	}
	return c.Life() + 1, e
}

func (m *plain) raise(c *cell.Cell, to api.Pin) api.Errno {
	now, e := c.Pin(), api.OK
	switch {
	case to.Life < 0 || to.Num < 0:
		e = api.EARG
	case to.Life < now.Life || to.Life == now.Life && to.Num <= now.Num || to.Life > c.Life():
		e = api.EORDER
	case to.Num > m.bound.Num:
		e = api.ESPENT
	}
	return m.act(e)
}

// P10.1 to P10.3: behind any calls life and pin are what they were, or greater, and within their bounds.
func TestNeverBack(t *testing.T) {
	told := map[api.Errno]int{}
	for seed := range int64(300) {
		rnd := rand.New(rand.NewSource(seed))
		m := &plain{bound: pin(rnd.Intn(6), rnd.Intn(6))}
		c, p := plugged(m.bound.Life, m.bound.Num)
		p.Fuse(0)
		for range 60 {
			life, now, e := c.Life(), c.Pin(), api.OK
			switch rnd.Intn(6) {
			case 0:
				m.fuse = rnd.Intn(12)
				p.Mend()
				p.Fuse(m.fuse)
			case 1:
				var want int
				want, e = m.birth(c)
				birth(t, c, want, e)
			default:
				to := pin(rnd.Intn(8)-1, rnd.Intn(8)-1)
				e = m.raise(c, to)
				raise(t, c, to, e)
			}
			told[e]++
			if c.Life() < life || cell.Less(c.Pin(), now) || c.Life() > m.bound.Life || c.Pin().Num > m.bound.Num || c.Pin().Life > c.Life() {
				t.Errorf("life %d, pin %v, ahead %d, %v, bounds %v", c.Life(), c.Pin(), life, now, m.bound)
			}
			if p.On() != (m.fuse >= 0) || t.Failed() {
				t.Fatalf("seed %d: on %v", seed, p.On())
			}
		}
	}
	for _, e := range []api.Errno{api.OK, api.EARG, api.ESPENT, api.EDOWN, api.EORDER} {
		if told[e] < 100 {
			t.Errorf("not all was tried: %v", told)
		}
	}
}

// notMade are cells that New did not make.
func notMade() map[string]*cell.Cell {
	return map[string]*cell.Cell{"nil": nil, "new": new(cell.Cell), "zero": {}}
}

// P10.2, rule 6: a cell that New did not make tells ENIL ahead of all else, and is 0.
func TestNotMade(t *testing.T) {
	for name, c := range notMade() {
		t.Run(name, func(t *testing.T) {
			for range 2 {
				birth(t, c, 0, api.ENIL)
				for _, p := range []api.Pin{{}, pin(0, 1), pin(1, 1), pin(-1, 0), pin(0, -1), pin(0, most+1), pin(math.MaxInt, math.MinInt)} {
					raise(t, c, p, api.ENIL)
				}
				is(t, c, 0, api.Pin{})
			}
		})
	}
}

// P10.2, rule 6: a cell on a power that Plug did not make tells that there is none, behind all else.
func TestNoPower(t *testing.T) {
	for name, p := range map[string]*disk.Power{"nil": nil, "new": new(disk.Power)} {
		t.Run(name, func(t *testing.T) {
			c := cell.New(p, api.Bounds{Life: 1, Pin: 1})
			birth(t, c, 0, api.EDOWN)
			raise(t, c, pin(0, 1), api.EDOWN)
			raise(t, c, pin(0, 2), api.ESPENT)
			raise(t, c, pin(0, 0), api.EORDER)
			raise(t, c, pin(0, -1), api.EARG)
			birth(t, cell.New(p, api.Bounds{}), 0, api.ESPENT)
		})
	}
}
