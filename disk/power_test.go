package disk_test

import (
	"math"
	"testing"

	"intaglio/api"
	"intaglio/disk"
)

const many = 10000

// acts asks that so many acts go on.
func acts(t *testing.T, p *disk.Power, n int) {
	t.Helper()
	for i := range n {
		if !p.On() {
			t.Fatalf("off ahead of the act %d of %d", i, n)
		}
		if e := p.Act(); e != api.OK || !p.On() {
			t.Fatalf("act %d of %d: %d, on %v", i, n, e, p.On())
		}
	}
}

// goesOff asks that power is on, goes off at the next act, and stays off.
func goesOff(t *testing.T, p *disk.Power) {
	t.Helper()
	if !p.On() {
		t.Fatal("off ahead of the act")
	}
	isOff(t, p, 1)
	isOff(t, p, 10)
}

// isOff asks that so many acts don't go on, and that power is off behind each.
func isOff(t *testing.T, p *disk.Power, n int) {
	t.Helper()
	for i := range n {
		if e := p.Act(); e != api.EDOWN || p.On() {
			t.Fatalf("act %d of %d: %d, on %v", i, n, e, p.On())
		}
	}
}

// P9.1: at first power is on, and there is no fuse.
func TestPowerAtFirst(t *testing.T) {
	acts(t, disk.Plug(), many)
}

// P9.1: so many acts go on, and power goes off at the one behind them.
func TestFuse(t *testing.T) {
	for _, n := range []int{0, 1, 2, 3, 10, many} {
		p := disk.Plug()
		p.Fuse(n)
		acts(t, p, n)
		goesOff(t, p)
	}
}

// P9.1: below 0 all acts go on, whatever fuse there was.
func TestFuseBelowZero(t *testing.T) {
	for _, n := range []int{-1, -2, -many, math.MinInt, math.MinInt + 1} {
		for _, ahead := range []int{-5, 0, 1, 7} {
			p := disk.Plug()
			p.Fuse(ahead)
			p.Fuse(n)
			acts(t, p, many)
		}
	}
}

// P9.1: a great fuse goes on.
func TestGreatFuse(t *testing.T) {
	p := disk.Plug()
	p.Fuse(math.MaxInt)
	acts(t, p, many)
}

// P9.1: a fuse counts from its own call on.
func TestFuseAnew(t *testing.T) {
	p := disk.Plug()
	acts(t, p, 3)
	p.Fuse(3)
	acts(t, p, 2)
	p.Fuse(3)
	acts(t, p, 3)
	goesOff(t, p)
	p = disk.Plug()
	p.Fuse(5)
	p.Fuse(1)
	acts(t, p, 1)
	goesOff(t, p)
}

// P9.1: asking whether it is on is no act.
func TestOnIsNoAct(t *testing.T) {
	p := disk.Plug()
	p.Fuse(1)
	for range many {
		if !p.On() {
			t.Fatal("off")
		}
	}
	acts(t, p, 1)
	goesOff(t, p)
}

// P9.1: only Mend puts power on again; behind it there is no fuse.
func TestMend(t *testing.T) {
	for _, n := range []int{-1, 0, 1, 5} {
		p := disk.Plug()
		p.Fuse(0)
		goesOff(t, p)
		p.Fuse(n)
		isOff(t, p, 10)
		p.Mend()
		acts(t, p, many)
		p.Fuse(2)
		acts(t, p, 2)
		goesOff(t, p)
	}
}

// P9.1: Mend takes a fuse away, also while power is on.
func TestMendWhileOn(t *testing.T) {
	for _, n := range []int{0, 1, 2} {
		p := disk.Plug()
		p.Fuse(n)
		p.Mend()
		acts(t, p, many)
	}
}

// P9.1: one power's fuse is not another's.
func TestPowersApart(t *testing.T) {
	p, q := disk.Plug(), disk.Plug()
	p.Fuse(0)
	goesOff(t, p)
	acts(t, q, many)
	q.Fuse(1)
	p.Mend()
	acts(t, p, many)
	acts(t, q, 1)
	goesOff(t, q)
}

// wrongPowers are powers that Plug did not make.
func wrongPowers() map[string]*disk.Power {
	return map[string]*disk.Power{"nil": nil, "new": new(disk.Power), "zero": {}}
}

// P9.1, rule 6: a power that Plug did not make is off, and stays so.
func TestPowerNotMade(t *testing.T) {
	for name, p := range wrongPowers() {
		t.Run(name, func(t *testing.T) {
			if p.On() {
				t.Error("on")
			}
			isOff(t, p, 3)
			for _, n := range []int{-1, 0, 1, math.MaxInt, math.MinInt} {
				p.Fuse(n)
				isOff(t, p, 3)
				p.Mend()
				if p.On() {
					t.Error("on behind Mend")
				}
				isOff(t, p, 3)
			}
		})
	}
}
