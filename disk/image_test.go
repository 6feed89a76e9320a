package disk_test

import (
	"bytes"
	"slices"
	"strings"
	"testing"

	"intaglio/api"
)

// P9.4: the image tells names, bytes, and how many are kept; put back, it is all as it was.
func TestImageAndLoad(t *testing.T) {
	r := newRig(t)
	r.holds()
	r.put("c", "abc", "de")
	r.put("a", "", "loose")
	r.put("b", "kept", "")
	r.told("create", r.d.Create("d"), api.OK)
	want := []api.File{file("a", "loose", 0), file("b", "kept", 4), file("c", "abcde", 3), file("d", "", 0)}
	r.holds(want...)
	old := r.d.Image()
	r.told("remove", r.d.Remove("b"), api.OK)
	r.told("append", r.d.Append("c", []byte("fgh")), api.OK)
	r.told("sync", r.d.Sync("c"), api.OK)
	r.told("create", r.d.Create("e"), api.OK)
	r.told("load", r.d.Load(old), api.OK)
	r.holds(want...)
	r.reads("c", "abcde")
	r.d.Crash([]int{2, 2, 1, 1})
	r.holds(file("a", "lo", 2), file("b", "kept", 4), file("c", "abcd", 4), file("d", "", 0))
	r.told("load again", r.d.Load(old), api.OK)
	r.holds(want...)
}

// P9.4: files are loaded in any order, in the place of all; no files are files too.
func TestLoadInAnyOrder(t *testing.T) {
	r := newRig(t)
	for _, l := range [][]api.File{
		{file("b", "two", 1), file("a", "one", 0), file("\xff", "", 0), file("B", "three", 5)},
		{file("a", "other", 5)},
		nil,
		{file(strings.Repeat("n", 40), "x", 1), file("é", "y", 0)},
		{},
	} {
		r.told("load", r.d.Load(l), api.OK)
		want := slices.Clone(l)
		slices.SortFunc(want, func(a, b api.File) int { return strings.Compare(a.Name, b.Name) })
		r.holds(want...)
	}
}

// P9.4: what may not be is not loaded, wherever it stands, and nothing changes.
func TestLoadRefuses(t *testing.T) {
	big := make([]byte, api.MaxFile+1)
	wrong := [][]api.File{
		{file("a", "x", -1)}, {file("a", "x", 2)}, {file("a", "", 1)}, {file("a", "", -1)}, {file("a", "abc", 4)}, {file("a", "abc", 1<<40)}, {file("a", "abc", -1<<63)},
		{{Name: "a", Data: big}}, {{Name: "a", Data: big, Kept: api.MaxFile}}, {{Name: "a", Data: big, Kept: api.MaxFile + 1}},
		{file("a", "x", 1), file("a", "x", 1)}, {file("a", "x", 1), file("b", "x", 1), file("a", "", 0)},
		{file("a", "x", 1), file("b", "y", 0), file("b", "y", 0)},
	}
	for _, name := range wrongNames() {
		wrong = append(wrong, []api.File{file(name, "x", 1)})
	}
	for _, l := range wrong {
		for _, around := range [][2][]api.File{{}, {{file("0", "x", 1)}, nil}, {nil, {file("0", "x", 1)}}} {
			r := newRig(t)
			r.put("there", "abc", "de")
			r.told("load", r.d.Load(slices.Concat(around[0], l, around[1])), api.EARG)
			r.holds(file("there", "abcde", 3))
			r.p.Fuse(0)
			goesOff(t, r.p)
			r.told("load without power", r.d.Load(slices.Concat(around[0], l, around[1])), api.EARG)
			r.holds(file("there", "abcde", 3))
		}
	}
}

// P9.4: at most 64 files are loaded, of at most 2^20 bytes.
func TestLoadBounds(t *testing.T) {
	r := newRig(t)
	full := fullDisk()
	full[7] = api.File{Name: "07", Data: make([]byte, api.MaxFile), Kept: api.MaxFile}
	full[8] = api.File{Name: "08", Data: make([]byte, api.MaxFile)}
	r.told("load", r.d.Load(full), api.OK)
	r.holds(full...)
	for _, l := range [][]api.File{append(slices.Clone(full), file("99", "", 0)), append(slices.Clone(full), full[0]), append(slices.Clone(full), full...)} {
		r.told("load too many", r.d.Load(l), api.EARG)
		r.holds(full...)
	}
	r.told("load fewer", r.d.Load(full[1:]), api.OK)
	r.told("create", r.d.Create("99"), api.OK)
	r.told("create", r.d.Create("00"), api.EFULL)
}

// P9.4: an edited file has just those bytes, all kept, whatever was there.
func TestEdit(t *testing.T) {
	r := newRig(t)
	r.put("b", "abc", "de")
	r.told("edit", r.d.Edit("b", []byte("edited")), api.OK)
	r.holds(file("b", "edited", 6))
	r.told("edit", r.d.Edit("a", []byte("x")), api.OK)
	r.holds(file("a", "x", 1), file("b", "edited", 6))
	r.told("edit", r.d.Edit("b", nil), api.OK)
	r.holds(file("a", "x", 1), file("b", "", 0))
	r.told("append", r.d.Append("b", []byte("more")), api.OK)
	r.holds(file("a", "x", 1), file("b", "more", 0))
	r.d.Crash([]int{0, 2})
	r.holds(file("a", "x", 1), file("b", "mo", 2))
}

// P9.4: an edited file has at most 2^20 bytes; that there are too many is told ahead of EFULL.
func TestEditBounds(t *testing.T) {
	big := bytes.Repeat([]byte("x"), api.MaxFile+1)
	r := newRig(t)
	r.told("edit", r.d.Edit("a", big[:api.MaxFile]), api.OK)
	r.told("edit", r.d.Edit("a", big), api.EARG)
	r.told("edit what is not there", r.d.Edit("b", big), api.EARG)
	r.holds(file("a", string(big[:api.MaxFile]), api.MaxFile))
	r.told("append", r.d.Append("a", big[:1]), api.EFULL)
	full := fullDisk()
	r.told("load", r.d.Load(full), api.OK)
	r.told("edit too much on a full disk", r.d.Edit("one more", big), api.EARG)
	r.told("edit no name on a full disk", r.d.Edit("", nil), api.EARG)
	r.told("edit on a full disk", r.d.Edit("one more", big[:api.MaxFile]), api.EFULL)
	r.holds(full...)
}

// Rule 4: lists that are handed in aren't changed, and not kept.
func TestWhatIsHandedIn(t *testing.T) {
	r := newRig(t)
	room := bytes.Repeat([]byte{0xee}, 100)
	b := append(make([]byte, 0, 100), "abc"...)
	copy(b[3:100], room)
	r.told("create", r.d.Create("a"), api.OK)
	r.told("append", r.d.Append("a", b), api.OK)
	r.told("edit", r.d.Edit("b", b), api.OK)
	r.told("append", r.d.Append("b", []byte("de")), api.OK)
	l := append(make([]api.File, 0, 3), api.File{Name: "d", Data: b, Kept: 1}, api.File{Name: "c", Data: b, Kept: 2})
	cuts := append(make([]int, 0, 5), -7, 9, 3)
	r.d.Crash(cuts)
	if !slices.Equal(cuts[:5], []int{-7, 9, 3, 0, 0}) {
		t.Errorf("cuts %d", cuts[:5])
	}
	r.told("append", r.d.Append("b", []byte("fg")), api.OK)
	r.told("load", r.d.Load(l), api.OK)
	r.told("append", r.d.Append("d", []byte("de")), api.OK)
	r.told("sync", r.d.Sync("d"), api.OK)
	if string(b) != "abc" || !bytes.Equal(b[3:100], room[3:]) {
		t.Errorf("changed: %q", b[:100])
	}
	sameFiles(t, l[:3], []api.File{file("d", "abc", 1), file("c", "abc", 2), {}})
	copy(b, "XYZ")
	l[0], l[1] = file("e", "", 0), file("f", "", 0)
	r.holds(file("c", "abc", 2), file("d", "abcde", 5))
}

// Rule 4: what is handed in by Append and Edit is not kept.
func TestAppendedAndEditedIsNotKept(t *testing.T) {
	r := newRig(t)
	b := []byte("abc")
	r.told("create", r.d.Create("a"), api.OK)
	r.told("append", r.d.Append("a", b), api.OK)
	r.told("edit", r.d.Edit("b", b), api.OK)
	copy(b, "XYZ")
	r.holds(file("a", "abc", 0), file("b", "abc", 3))
}

// Rule 4: an answer is new memory, its spare room too.
func TestAnswersAreNew(t *testing.T) {
	r := newRig(t)
	r.put("a", "abc", "de")
	r.put("b", "xyz", "")
	spoil := func(b []byte) {
		b = b[:cap(b)]
		for i := range b {
			b[i] = 0xee
		}
	}
	b, _ := r.d.Read("a")
	image, names := r.d.Image(), r.d.Names()
	spoil(b)
	for i := range image {
		spoil(image[i].Data)
		image[i] = api.File{}
	}
	clear(names)
	r.holds(file("a", "abcde", 3), file("b", "xyz", 3))
	b, _ = r.d.Read("a")
	image = r.d.Image()
	r.told("append", r.d.Append("a", []byte("fgh")), api.OK)
	r.told("edit", r.d.Edit("b", []byte("XYZ")), api.OK)
	if string(b) != "abcde" {
		t.Errorf("read ahead: %q", b)
	}
	sameFiles(t, image, []api.File{file("a", "abcde", 3), file("b", "xyz", 3)})
	r.told("load", r.d.Load(image), api.OK)
	spoil(image[0].Data)
	r.holds(file("a", "abcde", 3), file("b", "xyz", 3))
}
