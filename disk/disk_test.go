package disk_test

import (
	"bytes"
	"fmt"
	"math"
	"slices"
	"strings"
	"testing"

	"intaglio/api"
	"intaglio/disk"
)

// rig is a disk and its power.
type rig struct {
	*testing.T
	p *disk.Power
	d *disk.Disk
}

// newRig is a disk without files, whose power is on.
func newRig(t *testing.T) rig {
	p := disk.Plug()
	return rig{t, p, disk.New(p)}
}

// told asks what a call told.
func (r rig) told(what string, got, want api.Errno) {
	r.Helper()
	if got != want {
		r.Errorf("%s: %d, want %d", what, got, want)
	}
}

// put makes a file of bytes of which the first ones are kept.
func (r rig) put(name, kept, loose string) {
	r.Helper()
	r.told("create "+name, r.d.Create(name), api.OK)
	r.told("append "+name, r.d.Append(name, []byte(kept)), api.OK)
	r.told("sync "+name, r.d.Sync(name), api.OK)
	if loose != "" {
		r.told("append "+name, r.d.Append(name, []byte(loose)), api.OK)
	}
}

// holds asks for all files, with power and without.
func (r rig) holds(want ...api.File) {
	r.Helper()
	sameFiles(r.T, r.d.Image(), want)
	var names []string
	for _, f := range want {
		names = append(names, f.Name)
	}
	if got := r.d.Names(); !slices.Equal(got, names) {
		r.Errorf("names %q, want %q", got, names)
	}
}

// reads asks for a file's bytes.
func (r rig) reads(name, want string) {
	r.Helper()
	if got, e := r.d.Read(name); e != api.OK || string(got) != want {
		r.Errorf("read %q: %d, %.99q, want %.99q", name, e, got, want)
	}
}

// file is a file.
func file(name, data string, kept int) api.File {
	return api.File{Name: name, Data: []byte(data), Kept: kept}
}

// sameFiles asks that two lists of files are the same.
func sameFiles(t *testing.T, got, want []api.File) {
	t.Helper()
	if !slices.EqualFunc(got, want, func(a, b api.File) bool {
		return a.Name == b.Name && a.Kept == b.Kept && bytes.Equal(a.Data, b.Data)
	}) {
		t.Errorf("files %s, want %s", brief(got), brief(want))
	}
}

// brief is files in few words.
func brief(l []api.File) string {
	var b strings.Builder
	for _, f := range l {
		fmt.Fprintf(&b, "[%q %.20q of %d kept %d]", f.Name, f.Data, len(f.Data), f.Kept)
	}
	return b.String()
}

// call is a call of a file.
type call struct {
	what string
	do   func(d *disk.Disk, name string) api.Errno
}

// actsOf are the calls of a file that are acts and ask that it is there.
func actsOf() []call {
	return []call{
		{"append", func(d *disk.Disk, name string) api.Errno { return d.Append(name, []byte("x")) }},
		{"append nothing", func(d *disk.Disk, name string) api.Errno { return d.Append(name, nil) }},
		{"sync", func(d *disk.Disk, name string) api.Errno { return d.Sync(name) }},
		{"rename", func(d *disk.Disk, name string) api.Errno { return d.Rename(name, "other") }},
		{"rename to itself", func(d *disk.Disk, name string) api.Errno { return d.Rename(name, name) }},
		{"remove", func(d *disk.Disk, name string) api.Errno { return d.Remove(name) }},
	}
}

// create is the call of a file that is an act and doesn't ask whether it is there.
func create() call {
	return call{"create", func(d *disk.Disk, name string) api.Errno { return d.Create(name) }}
}

// read is the call of a file that is no act; it asks that a file that isn't read has no bytes.
func read(t *testing.T) call {
	return call{"read", func(d *disk.Disk, name string) api.Errno {
		b, e := d.Read(name)
		if e != api.OK && len(b) != 0 {
			t.Errorf("read %q: %d and %d bytes", name, e, len(b))
		}
		return e
	}}
}

// renameTo is Rename of a file that is there, to a name.
func renameTo() call {
	return call{"rename to", func(d *disk.Disk, name string) api.Errno { return d.Rename("there", name) }}
}

// wrongNames are names that may not be.
func wrongNames() []string {
	return []string{"", strings.Repeat("a", 41), strings.Repeat("a", 1000), strings.Repeat("é", 21), strings.Repeat("\x00", 41)}
}

// rightNames are names that may be.
func rightNames() []string {
	return []string{"a", "\x00", " ", ".", "/", "..", "a/b", "\xff\xfe", "é", "A", strings.Repeat("a", 39), strings.Repeat("a", 40), strings.Repeat("é", 20)}
}

// P9.2: names of 1 to 40 bytes may be, whatever they are.
func TestRightNames(t *testing.T) {
	r := newRig(t)
	for _, name := range rightNames() {
		r.put(name, "kept "+name, "loose")
		r.reads(name, "kept "+name+"loose")
		r.told("rename", r.d.Rename(name, "other"), api.OK)
		r.told("rename back", r.d.Rename("other", name), api.OK)
		r.reads(name, "kept "+name+"loose")
		r.told("edit", r.d.Edit(name, []byte("edited "+name)), api.OK)
	}
	want := slices.Clone(rightNames())
	slices.Sort(want)
	if got := r.d.Names(); !slices.Equal(got, want) {
		t.Errorf("names %q, want %q", got, want)
	}
	for _, name := range rightNames() {
		r.reads(name, "edited "+name)
		r.told("remove", r.d.Remove(name), api.OK)
	}
	r.holds()
}

// P9.2: a name that may not be is told ahead of power, and changes nothing, with power and without.
func TestWrongNames(t *testing.T) {
	for _, c := range append(actsOf(), create(), read(t), renameTo(), call{"edit", func(d *disk.Disk, name string) api.Errno { return d.Edit(name, nil) }}) {
		r := newRig(t)
		r.put("there", "abc", "de")
		r.p.Fuse(1)
		for _, name := range wrongNames() {
			r.told(c.what, c.do(r.d, name), api.EARG)
		}
		// No act was made: one goes on still.
		r.told("sync", r.d.Sync("there"), api.OK)
		goesOff(t, r.p)
		for _, name := range wrongNames() {
			r.told(c.what+" without power", c.do(r.d, name), api.EARG)
		}
		r.holds(file("there", "abcde", 5))
	}
}

// P9.2: of Rename a name that may not be is told ahead of power and of all else, be it the first one or the second.
func TestRenameAsksBothNames(t *testing.T) {
	for _, wrong := range wrongNames() {
		for _, other := range append(wrongNames(), "there", "missing") {
			r := newRig(t)
			r.put("there", "abc", "")
			r.told("rename from", r.d.Rename(wrong, other), api.EARG)
			r.told("rename to", r.d.Rename(other, wrong), api.EARG)
			r.p.Fuse(0)
			goesOff(t, r.p)
			r.told("rename from without power", r.d.Rename(wrong, other), api.EARG)
			r.told("rename to without power", r.d.Rename(other, wrong), api.EARG)
			r.holds(file("there", "abc", 3))
		}
	}
}

// P9.2: power is asked ahead of what is said, and nothing changes without it.
func TestPowerAheadOfTheRest(t *testing.T) {
	for _, c := range append(actsOf(), create(), read(t), renameTo()) {
		r := newRig(t)
		r.put("there", "abc", "de")
		r.p.Fuse(0)
		goesOff(t, r.p)
		for _, name := range []string{"there", "missing"} {
			r.told(c.what, c.do(r.d, name), api.EDOWN)
		}
		r.holds(file("there", "abcde", 3))
	}
}

// P9.2: also EFULL is told behind power, but ahead of the act's error.
func TestFullAheadOfTheAct(t *testing.T) {
	r := newRig(t)
	for _, f := range fullDisk() {
		r.told("edit", r.d.Edit(f.Name, f.Data), api.OK)
	}
	big := make([]byte, api.MaxFile)
	r.told("edit", r.d.Edit("00", big), api.OK)
	full := []func() api.Errno{
		func() api.Errno { return r.d.Create("one more") },
		func() api.Errno { return r.d.Append("00", []byte("x")) },
	}
	r.p.Fuse(0)
	for i, do := range full {
		r.told("full", do(), api.EFULL)
		if !r.p.On() {
			t.Fatalf("%d: power went off", i)
		}
	}
	goesOff(t, r.p)
	for _, do := range full {
		r.told("full without power", do(), api.EDOWN)
	}
}

// P9.2: a file that is not there is told ahead of the act's error: power stays on.
func TestNoneAheadOfTheAct(t *testing.T) {
	for _, c := range append(actsOf(), read(t)) {
		r := newRig(t)
		r.put("there", "abc", "")
		r.p.Fuse(0)
		for range 3 {
			r.told(c.what, c.do(r.d, "missing"), api.ENONE)
			if !r.p.On() {
				t.Fatalf("%s: power went off", c.what)
			}
		}
		r.holds(file("there", "abc", 3))
		goesOff(t, r.p)
	}
}

// P9.2: at an act at which power goes off, and at those behind it, nothing changes.
func TestPowerGoesOffAtAnAct(t *testing.T) {
	for _, c := range append(actsOf(), create(), renameTo()) {
		for _, n := range []int{0, 1, 2} {
			r := newRig(t)
			r.put("there", "abc", "de")
			r.p.Fuse(n)
			acts(t, r.p, n)
			r.told(c.what, c.do(r.d, "there"), api.EDOWN)
			if r.p.On() {
				t.Errorf("%s: still on", c.what)
			}
			r.told(c.what, c.do(r.d, "there"), api.EDOWN)
			r.holds(file("there", "abcde", 3))
			r.p.Mend()
			r.told(c.what, c.do(r.d, "there"), api.OK)
		}
	}
	r := newRig(t)
	r.p.Fuse(0)
	r.told("create", r.d.Create("new"), api.EDOWN)
	r.holds()
}

// P9.2: each call that goes well is one act.
func TestCallsAreOneAct(t *testing.T) {
	for _, c := range append(actsOf(), create(), renameTo()) {
		r := newRig(t)
		r.put("there", "abc", "de")
		r.p.Fuse(3)
		r.told(c.what, c.do(r.d, "there"), api.OK)
		acts(t, r.p, 2)
		goesOff(t, r.p)
	}
}

// P9.2, P9.4: Read, Names, Image, Load and Edit are no acts, and but for Read they need no power.
func TestNoActs(t *testing.T) {
	r := newRig(t)
	r.put("there", "abc", "de")
	r.p.Fuse(0)
	for range 3 {
		r.reads("there", "abcde")
		r.holds(file("there", "abcde", 3))
		r.told("load", r.d.Load(r.d.Image()), api.OK)
		r.told("edit", r.d.Edit("other", []byte("x")), api.OK)
		r.told("load", r.d.Load(r.d.Image()[1:]), api.OK)
		if !r.p.On() {
			t.Fatal("power went off")
		}
	}
	goesOff(t, r.p)
	r.told("load", r.d.Load([]api.File{file("b", "xyz", 1)}), api.OK)
	r.holds(file("b", "xyz", 1))
	r.told("edit", r.d.Edit("a", []byte("new")), api.OK)
	r.holds(file("a", "new", 3), file("b", "xyz", 1))
	isOff(t, r.p, 1)
}

// P9.2: Create leaves a file without bytes, of which none is kept, whatever was there.
func TestCreate(t *testing.T) {
	r := newRig(t)
	r.told("create", r.d.Create("a"), api.OK)
	r.holds(file("a", "", 0))
	r.reads("a", "")
	r.put("b", "abc", "de")
	r.told("create again", r.d.Create("b"), api.OK)
	r.holds(file("a", "", 0), file("b", "", 0))
	r.told("append", r.d.Append("b", []byte("xyz")), api.OK)
	r.holds(file("a", "", 0), file("b", "xyz", 0))
}

// fullDisk is as many files as there may be, by rising names.
func fullDisk() []api.File {
	var l []api.File
	for i := range api.MaxFiles {
		l = append(l, file(string([]byte{'0' + byte(i/10), '0' + byte(i%10)}), "x", 1))
	}
	return l
}

// P9.2, P9.4: there are at most 64 files; what is there may be made and edited still.
func TestFiles(t *testing.T) {
	r := newRig(t)
	want := fullDisk()
	for i, f := range want {
		r.told("create", r.d.Create(f.Name), api.OK)
		r.told("edit", r.d.Edit(f.Name, f.Data), api.OK)
		if n := len(r.d.Names()); n != i+1 {
			t.Fatalf("%d files, want %d", n, i+1)
		}
	}
	r.told("create one more", r.d.Create("one more"), api.EFULL)
	r.told("edit one more", r.d.Edit("one more", nil), api.EFULL)
	r.holds(want...)
	r.told("create again", r.d.Create("63"), api.OK)
	r.told("edit again", r.d.Edit("00", nil), api.OK)
	want[63], want[0] = file("63", "", 0), file("00", "", 0)
	r.holds(want...)
	r.told("rename", r.d.Rename("63", "one more"), api.OK)
	r.told("create", r.d.Create("63"), api.EFULL)
	r.told("rename onto", r.d.Rename("00", "01"), api.OK)
	r.told("create", r.d.Create("63"), api.OK)
	r.told("create", r.d.Create("00"), api.EFULL)
	r.told("remove", r.d.Remove("01"), api.OK)
	r.told("edit", r.d.Edit("00", nil), api.OK)
	r.told("edit", r.d.Edit("01", nil), api.EFULL)
}

// P9.2: a file has at most 2^20 bytes, in whatever pieces they come; where they would be more, none comes.
func TestFileSize(t *testing.T) {
	big := bytes.Repeat([]byte("x"), api.MaxFile+1)
	for _, n := range []int{0, 1, 1000, api.MaxFile - 1, api.MaxFile} {
		r := newRig(t)
		r.put("a", string(big[:n]), "")
		r.told("one more than may be", r.d.Append("a", big[:api.MaxFile+1-n]), api.EFULL)
		r.told("many more", r.d.Append("a", append(bytes.Clone(big), big...)), api.EFULL)
		r.reads("a", string(big[:n]))
		r.told("as many as may be", r.d.Append("a", big[:api.MaxFile-n]), api.OK)
		r.holds(file("a", string(big[:api.MaxFile]), n))
		r.told("one more", r.d.Append("a", big[:1]), api.EFULL)
		r.told("none more", r.d.Append("a", nil), api.OK)
		r.reads("a", string(big[:api.MaxFile]))
	}
}

// P9.2: what is appended comes behind, and is not kept before Sync.
func TestAppendAndSync(t *testing.T) {
	r := newRig(t)
	r.told("create", r.d.Create("a"), api.OK)
	r.told("create", r.d.Create("b"), api.OK)
	all, kept := "", 0
	for i := range 50 {
		piece := strings.Repeat(string(rune('a'+i%26)), i%7)
		r.told("append", r.d.Append("a", []byte(piece)), api.OK)
		all += piece
		r.reads("a", all)
		if i%5 == 4 {
			r.told("sync", r.d.Sync("a"), api.OK)
			kept = len(all)
		}
		r.holds(file("a", all, kept), file("b", "", 0))
	}
}

// P9.2: Rename takes bytes and what is kept of them to the new name, whatever was there.
func TestRename(t *testing.T) {
	r := newRig(t)
	r.put("a", "abc", "de")
	r.put("b", "other", "loose one")
	r.put("c", "third", "")
	r.told("rename", r.d.Rename("a", "z"), api.OK)
	r.holds(file("b", "otherloose one", 5), file("c", "third", 5), file("z", "abcde", 3))
	r.told("rename onto", r.d.Rename("z", "b"), api.OK)
	r.holds(file("b", "abcde", 3), file("c", "third", 5))
	r.told("rename onto, downward", r.d.Rename("c", "b"), api.OK)
	r.holds(file("b", "third", 5))
	r.told("append", r.d.Append("b", []byte(" one")), api.OK)
	r.holds(file("b", "third one", 5))
	r.told("rename what is gone", r.d.Rename("c", "b"), api.ENONE)
	r.told("rename what is gone to itself", r.d.Rename("c", "c"), api.ENONE)
	r.told("rename onto what is gone", r.d.Rename("b", "a"), api.OK)
	r.holds(file("a", "third one", 5))
}

// P9.2: Rename to the same name changes nothing.
func TestRenameToItself(t *testing.T) {
	r := newRig(t)
	r.put("a", "abc", "de")
	r.put("b", "", "loose")
	for _, name := range []string{"a", "b"} {
		r.told("rename", r.d.Rename(name, name), api.OK)
		r.holds(file("a", "abcde", 3), file("b", "loose", 0))
	}
}

// P9.2: what is removed is gone, and nothing else.
func TestRemove(t *testing.T) {
	r := newRig(t)
	r.put("a", "abc", "de")
	r.put("b", "", "loose")
	r.told("remove", r.d.Remove("a"), api.OK)
	r.holds(file("b", "loose", 0))
	r.told("remove again", r.d.Remove("a"), api.ENONE)
	for _, c := range append(actsOf(), read(t)) {
		r.told(c.what, c.do(r.d, "a"), api.ENONE)
	}
	r.told("create", r.d.Create("a"), api.OK)
	r.holds(file("a", "", 0), file("b", "loose", 0))
}

// P9.2: names are told rising, byte by byte.
func TestNamesRise(t *testing.T) {
	want := []string{"\x00", "\x00\x00", "A", "B", "Z", "a", "a\x00", "a.", "a0", "a10", "a2", "aa", "b", "é", "\xff", "\xff\xff"}
	for turn := range 5 {
		r := newRig(t)
		for i := range want {
			r.told("create", r.d.Create(want[(i*7+turn)%len(want)]), api.OK)
		}
		for range 5 {
			if got := r.d.Names(); !slices.Equal(got, want) {
				t.Fatalf("names %q, want %q", got, want)
			}
		}
	}
}

// P9.2: two disks on one power have files of their own, and go off together.
func TestDisksOnOnePower(t *testing.T) {
	a := newRig(t)
	b := rig{t, a.p, disk.New(a.p)}
	a.put("a", "abc", "de")
	b.put("b", "xyz", "")
	a.p.Fuse(2)
	a.told("sync", a.d.Sync("a"), api.OK)
	b.told("sync", b.d.Sync("b"), api.OK)
	b.told("remove", b.d.Remove("b"), api.EDOWN)
	a.told("remove", a.d.Remove("a"), api.EDOWN)
	b.d.Crash(nil)
	a.told("append", a.d.Append("a", []byte("f")), api.OK)
	a.holds(file("a", "abcdef", 5))
	b.holds(file("b", "xyz", 3))
}

// notMade are disks that New did not make.
func notMade() map[string]*disk.Disk {
	return map[string]*disk.Disk{"nil": nil, "new": new(disk.Disk), "zero": {}}
}

// P9.4, rule 6: a disk that New did not make tells ENIL ahead of all else, and has nothing.
func TestDiskNotMade(t *testing.T) {
	for which, d := range notMade() {
		for range 2 {
			for _, name := range append(append(wrongNames(), rightNames()...), "there", "missing") {
				for _, c := range append(actsOf(), create(), read(t), renameTo()) {
					if e := c.do(d, name); e != api.ENIL {
						t.Errorf("%s: %s %q: %d", which, c.what, name, e)
					}
				}
				for _, size := range []int{0, 1, api.MaxFile + 1} {
					if e := d.Edit(name, make([]byte, size)); e != api.ENIL {
						t.Errorf("%s: edit %q: %d", which, name, e)
					}
				}
				if e := d.Load([]api.File{file(name, "x", 1)}); e != api.ENIL {
					t.Errorf("%s: load %q: %d", which, name, e)
				}
			}
			if d.Load(nil) != api.ENIL || d.Load(make([]api.File, 100)) != api.ENIL {
				t.Errorf("%s: load", which)
			}
			if len(d.Names()) != 0 || len(d.Image()) != 0 {
				t.Errorf("%s: %q, %s", which, d.Names(), brief(d.Image()))
			}
			d.Crash(nil)
			d.Crash([]int{1, -1, math.MaxInt})
		}
	}
}

// P9.1, P9.4, rule 6: a disk on a power that Plug did not make has no power, ever; what needs none goes on.
func TestDiskOnNoPower(t *testing.T) {
	for _, p := range wrongPowers() {
		r := rig{t, p, disk.New(p)}
		for range 3 {
			r.told("load", r.d.Load([]api.File{file("there", "abcde", 3)}), api.OK)
			for _, c := range append(actsOf(), create(), read(t), renameTo()) {
				for _, name := range []string{"there", "missing"} {
					r.told(c.what, c.do(r.d, name), api.EDOWN)
				}
				for _, name := range wrongNames() {
					r.told(c.what, c.do(r.d, name), api.EARG)
				}
			}
			r.holds(file("there", "abcde", 3))
			r.told("edit", r.d.Edit("other", []byte("x")), api.OK)
			r.holds(file("other", "x", 1), file("there", "abcde", 3))
			r.d.Crash([]int{0, 1})
			r.holds(file("other", "x", 1), file("there", "abcd", 4))
			if p.On() {
				t.Error("on behind a crash")
			}
		}
	}
}
