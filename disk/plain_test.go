package disk_test

import (
	"bytes"
	"math/rand"
	"slices"
	"strings"
	"testing"

	"intaglio/api"
)

// plain is a disk by the chapter's words: a list of files, in any order, and a power.
type plain struct {
	files []api.File
	on    bool
	fuse  int
}

func (m *plain) at(name string) int {
	return slices.IndexFunc(m.files, func(f api.File) bool { return f.Name == name })
}

// ask tells the first error of a call of a file, and its place.
func (m *plain) ask(name string, there bool) (int, api.Errno) {
	i := m.at(name)
	switch {
	case len(name) == 0 || len(name) > 40:
		return i, api.EARG
	case !m.on:
		return i, api.EDOWN
	case there && i < 0:
		return i, api.ENONE
	case !there && i < 0 && len(m.files) == 64:
		return i, api.EFULL
	}
	return i, api.OK
}

func (m *plain) act(e api.Errno) api.Errno {
	switch {
	case e != api.OK:
		return e
	case !m.on:
		return api.EDOWN
	case m.fuse == 0:
		m.on = false
		return api.EDOWN
	}
	m.fuse--
	return api.OK
}

func (m *plain) create(name string) api.Errno {
	i, e := m.ask(name, false)
	if e = m.act(e); e == api.OK {
		if i >= 0 {
			m.files = slices.Delete(m.files, i, i+1)
		}
		m.files = append(m.files, api.File{Name: name})
	}
	return e
}

func (m *plain) append(name string, b []byte) api.Errno {
	i, e := m.ask(name, true)
	if e == api.OK && len(m.files[i].Data)+len(b) > 1<<20 {
		e = api.EFULL
	}
	if e = m.act(e); e == api.OK {
		m.files[i].Data = slices.Concat(m.files[i].Data, b)
	}
	return e
}

func (m *plain) sync(name string) api.Errno {
	i, e := m.ask(name, true)
	if e = m.act(e); e == api.OK {
		m.files[i].Kept = len(m.files[i].Data)
	}
	return e
}

func (m *plain) rename(from, to string) api.Errno {
	if len(to) == 0 || len(to) > 40 {
		return api.EARG
	}
	i, e := m.ask(from, true)
	if e = m.act(e); e == api.OK && from != to {
		f := m.files[i]
		m.files = slices.DeleteFunc(m.files, func(f api.File) bool { return f.Name == from || f.Name == to })
		f.Name = to
		m.files = append(m.files, f)
	}
	return e
}

func (m *plain) remove(name string) api.Errno {
	i, e := m.ask(name, true)
	if e = m.act(e); e == api.OK {
		m.files = slices.Delete(m.files, i, i+1)
	}
	return e
}

func (m *plain) edit(name string, b []byte) api.Errno {
	i := m.at(name)
	if len(name) == 0 || len(name) > 40 || len(b) > 1<<20 {
		return api.EARG
	}
	if i < 0 && len(m.files) == 64 {
		return api.EFULL
	}
	if i >= 0 {
		m.files = slices.Delete(m.files, i, i+1)
	}
	m.files = append(m.files, api.File{Name: name, Data: b, Kept: len(b)})
	return api.OK
}

func (m *plain) crash(cuts []int) {
	m.files = m.image()
	for i := range m.files {
		f := &m.files[i]
		n := f.Kept
		if i < len(cuts) {
			n += left(cuts[i], len(f.Data)-f.Kept)
		}
		f.Data, f.Kept = f.Data[:n], n
	}
	m.on, m.fuse = true, -1
}

func (m *plain) image() []api.File {
	return slices.SortedFunc(slices.Values(m.files), func(a, b api.File) int { return strings.Compare(a.Name, b.Name) })
}

// anyBytes are some bytes, seldom as many as a file has.
func anyBytes(rnd *rand.Rand) []byte {
	n := rnd.Intn(12)
	if rnd.Intn(60) == 0 {
		n = api.MaxFile - rnd.Intn(3)
	}
	b := make([]byte, n)
	rnd.Read(b[:min(n, 12)])
	return b
}

// anyCuts are some cuts.
func anyCuts(rnd *rand.Rand) []int {
	var cuts []int
	for range rnd.Intn(8) {
		cuts = append(cuts, someCuts()[rnd.Intn(len(someCuts()))])
	}
	return cuts
}

// step does one thing with both, and tells what both told.
func step(rnd *rand.Rand, r rig, m *plain, names []string) (got, want api.Errno) {
	name, other := names[rnd.Intn(len(names))], names[rnd.Intn(len(names))]
	switch rnd.Intn(14) {
	case 0, 1, 2:
		return r.d.Create(name), m.create(name)
	case 3, 4, 5:
		b := anyBytes(rnd)
		return r.d.Append(name, b), m.append(name, b)
	case 6, 7:
		return r.d.Sync(name), m.sync(name)
	case 8:
		return r.d.Rename(name, other), m.rename(name, other)
	case 9:
		return r.d.Remove(name), m.remove(name)
	case 10:
		b := anyBytes(rnd)
		return r.d.Edit(name, b), m.edit(name, b)
	case 11:
		n := rnd.Intn(40) - 1
		r.p.Fuse(n)
		m.fuse = n
	case 12:
		if cuts := anyCuts(rnd); rnd.Intn(3) == 0 || !m.on {
			r.d.Crash(cuts)
			m.crash(cuts)
		}
	case 13:
		if rnd.Intn(10) == 0 {
			image := r.d.Image()
			rnd.Shuffle(len(image), func(i, j int) { image[i], image[j] = image[j], image[i] })
			return r.d.Load(image), api.OK
		}
	}
	return api.OK, api.OK
}

// P9.1 to P9.5: whatever is done, a disk is as one by the chapter's words.
func TestAsPlain(t *testing.T) {
	few := []string{"", "a", "b", "c", "d", "B", "\xff", strings.Repeat("n", 40), strings.Repeat("n", 41)}
	many := append([]string{""}, few...)
	for i := range 90 {
		many = append(many, string([]byte{'x', byte(i)}))
	}
	told := map[api.Errno]int{}
	for seed := range int64(20) {
		rnd := rand.New(rand.NewSource(seed))
		r, m := newRig(t), &plain{on: true, fuse: -1}
		names := few
		if seed%2 == 1 {
			names = many
		}
		for i := range 400 {
			got, want := step(rnd, r, m, names)
			if got != want || r.p.On() != m.on {
				t.Fatalf("seed %d, step %d: %d and %v, want %d and %v", seed, i, got, r.p.On(), want, m.on)
			}
			told[got]++
			sameOf(t, rnd, r, m, names)
			if t.Failed() {
				t.Fatalf("seed %d, step %d", seed, i)
			}
		}
	}
	for _, e := range []api.Errno{api.OK, api.EARG, api.EDOWN, api.ENONE, api.EFULL} {
		if told[e] < 20 {
			t.Errorf("not all was tried: %v", told)
		}
	}
}

// sameOf asks that both have the same files, and tell the same of some name.
func sameOf(t *testing.T, rnd *rand.Rand, r rig, m *plain, names []string) {
	t.Helper()
	r.holds(m.image()...)
	name := names[rnd.Intn(len(names))]
	b, e := r.d.Read(name)
	at, want := m.ask(name, true)
	var data []byte
	if want == api.OK {
		data = m.files[at].Data
	}
	if e != want || !bytes.Equal(b, data) {
		t.Errorf("read %q: %d, %d bytes, want %d, %d", name, e, len(b), want, len(data))
	}
}
