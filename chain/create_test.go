package chain_test

import (
	"crypto/sha256"
	"math"
	"reflect"
	"strings"
	"testing"

	"intaglio/api"
	"intaglio/box"
	"intaglio/chain"
	"intaglio/disk"
)

// noCreate asks for an error, with which there is no log, no file has changed, and nothing was sealed.
func noCreate(t *testing.T, what string, d *disk.Disk, b *box.Box, id api.KeyID, name string, want api.Errno) {
	t.Helper()
	ahead := d.Image()
	if l, e := chain.Create(d, b, id, name, 3); e != want || l != nil {
		t.Errorf("%s: %d, %v, want %d", what, e, l, want)
	}
	if !reflect.DeepEqual(d.Image(), ahead) || b.Sealed() != 0 {
		t.Errorf("%s: %v, ahead %v, %d sealed", what, d.Image(), ahead, b.Sealed())
	}
}

// badDisks are disks on which f can't be created, and why.
func badDisks(t *testing.T) map[string]func() (*disk.Disk, api.Errno) {
	return map[string]func() (*disk.Disk, api.Errno){
		"no power": func() (*disk.Disk, api.Errno) { return disk.New(nil), api.EDOWN },
		"off": func() (*disk.Disk, api.Errno) {
			p := disk.Plug()
			p.Fuse(0)
			p.Act()
			return disk.New(p), api.EDOWN
		},
		"goes off": func() (*disk.Disk, api.Errno) {
			p := disk.Plug()
			d := disk.New(p)
			d.Edit("g", []byte("other"))
			p.Fuse(0)
			return d, api.EDOWN
		},
		"full": func() (*disk.Disk, api.Errno) {
			d := disk.New(disk.Plug())
			for n := range api.MaxFiles {
				if e := d.Edit(strings.Repeat("g", n%40+1)+strings.Repeat("h", n/40), nil); e != api.OK {
					t.Fatal(n, e)
				}
			}
			return d, api.EFULL
		},
	}
}

// P20.1: the errors of Create, each alone.
func TestCreateErrors(t *testing.T) {
	both(t, func(t *testing.T, ideal bool) {
		for _, id := range wrongIDs() {
			noCreate(t, "a wrong id", disk.New(disk.Plug()), newBox(ideal), id, "f", api.EARG)
		}
		for name, d := range noDisks() {
			noCreate(t, name, d, newBox(ideal), someID(), "f", api.ENIL)
		}
		for name, b := range noBoxes() {
			noCreate(t, name, disk.New(disk.Plug()), b, someID(), "f", api.ENIL)
		}
		for what, bad := range badDisks(t) {
			d, want := bad()
			noCreate(t, what, d, newBox(ideal), someID(), "f", want)
		}
		for _, name := range []string{"", strings.Repeat("f", 41)} {
			noCreate(t, name, disk.New(disk.Plug()), newBox(ideal), someID(), name, api.EARG)
		}
	})
}

// P20.1: a wrong id goes ahead of what no call made, and that ahead of what the disk tells.
func TestCreateErrorsInOrder(t *testing.T) {
	d := disk.New(disk.Plug())
	for what, b := range noBoxes() {
		for other, none := range noDisks() {
			for _, name := range []string{"f", "", strings.Repeat("f", 41)} {
				for _, id := range wrongIDs() {
					noCreate(t, what, d, b, id, name, api.EARG)
					noCreate(t, other, none, newBox(true), id, name, api.EARG)
					noCreate(t, what+" and "+other, none, b, id, name, api.EARG)
				}
				noCreate(t, what, d, b, someID(), name, api.ENIL)
				noCreate(t, other, none, newBox(true), someID(), name, api.ENIL)
				noCreate(t, what+" and "+other, none, b, someID(), name, api.ENIL)
			}
		}
		for other, bad := range badDisks(t) {
			d, _ := bad()
			noCreate(t, what+", "+other, d, b, someID(), "f", api.ENIL)
			noCreate(t, what+", "+other, d, b, api.KeyID{}, "f", api.EARG)
			noCreate(t, other, d, newBox(false), api.KeyID{}, "f", api.EARG)
		}
	}
}

// P20.1: a log of no record, on a file without bytes, whatever was there; its chain is the sum of its id's bytes.
func TestCreate(t *testing.T) {
	both(t, func(t *testing.T, ideal bool) {
		for _, id := range append(otherIDs(), someID(), api.KeyID{Label: 1}, api.KeyID{Label: 6, Epoch: most, Life: most, Num: most, Side: 1, Peer: most}) {
			for _, n := range []int{math.MinInt, -1, 0, 1, most, math.MaxInt} {
				d, b := disk.New(disk.Plug()), newBox(ideal)
				d.Edit("f", []byte("what was there"))
				d.Edit("g", []byte("other"))
				l, e := chain.Create(d, b, id, "f", n)
				if e != api.OK || l.Len() != 0 || l.Chain() != sha256.Sum256(idBytes(id)) || b.Sealed() != 0 {
					t.Fatalf("%v, %d: %d, %d, %x, %d sealed", id, n, e, l.Len(), l.Chain(), b.Sealed())
				}
				want := []api.File{{Name: "f"}, {Name: "g", Data: []byte("other"), Kept: 5}}
				if got := d.Image(); !reflect.DeepEqual(got, want) {
					t.Errorf("%v, want %v", got, want)
				}
			}
		}
	})
}

// P20.1: to create is one act.
func TestCreateIsAnAct(t *testing.T) {
	p := disk.Plug()
	d := disk.New(p)
	p.Fuse(1)
	if _, e := chain.Create(d, newBox(true), someID(), "f", 3); e != api.OK || !p.On() {
		t.Error(e)
	}
	if e := p.Act(); e != api.EDOWN {
		t.Error("no act, or more than one", e)
	}
}
