package disk_test

import (
	"bytes"
	"math"
	"math/big"
	"slices"
	"strings"
	"testing"

	"intaglio/api"
)

// left is how many bytes of those that are not kept a cut leaves, reckoned in numbers of any width.
func left(cut, loose int) int {
	n := big.NewInt(int64(cut))
	if cut < 0 {
		n.Add(n, new(big.Int).Lsh(big.NewInt(1), 64))
	}
	return int(n.Mod(n, big.NewInt(int64(loose+1))).Int64())
}

// someCuts are cuts of all kinds.
func someCuts() []int {
	return []int{0, 1, 2, 3, 4, 5, 6, 7, 8, 100, -1, -2, -3, -4, -7, -100, math.MaxInt, math.MaxInt - 1, math.MinInt, math.MinInt + 1, 1 << 32, 1<<32 + 1}
}

// P9.3: of each file what is kept stays, and of the rest the first ones, cut modulo one more than how many these are.
func TestCuts(t *testing.T) {
	for _, kept := range []string{"", "k", "kept bytes"} {
		for loose := range 8 {
			for _, cut := range someCuts() {
				r := newRig(t)
				r.put("a", kept, "0123456"[:loose])
				r.d.Crash([]int{cut})
				n := len(kept) + left(cut, loose)
				r.holds(file("a", (kept + "0123456")[:n], n))
			}
		}
	}
}

// P9.3: the chapter's example.
func TestCutExample(t *testing.T) {
	r := newRig(t)
	r.put("a", "abc", "de")
	r.d.Crash([]int{4})
	r.holds(file("a", "abcd", 4))
}

// P9.3: a cut that is missing is 0, and one too many is of nothing.
func TestMissingCuts(t *testing.T) {
	cuts := []int{2, -1, 1, 2, 3, 4, 5}
	for n := range len(cuts) + 1 {
		for _, spare := range []bool{true, false} {
			r := newRig(t)
			r.put("c", "three", "xyz")
			r.put("a", "one", "xy")
			r.put("b", "two", "x")
			r.put("d", "four", "")
			given := slices.Clone(cuts)[:n]
			if !spare {
				given = slices.Clip(given)
			}
			r.d.Crash(given)
			want := []string{"one", "two", "three", "four"}
			for i, loose := range []string{"xy", "x", "xyz", ""} {
				if i < n {
					want[i] += loose[:left(cuts[i], len(loose))]
				}
			}
			r.holds(file("a", want[0], len(want[0])), file("b", want[1], len(want[1])), file("c", want[2], len(want[2])), file("d", want[3], len(want[3])))
		}
	}
}

// P9.3: cuts count the files by rising names, those too that are kept whole or have no bytes.
func TestCutsByRisingNames(t *testing.T) {
	r := newRig(t)
	names := []string{"A", "B", "a", "b", "é", "\xff"}
	for i := range names {
		loose := "012345"
		if i == 2 {
			loose = ""
		}
		r.put(names[(i*5+1)%len(names)], "", loose)
	}
	r.d.Crash([]int{1, 2, 3, 4, 5, 6})
	var want []api.File
	for i, name := range names {
		n := i + 1
		if name == names[(2*5+1)%len(names)] {
			n = 0
		}
		want = append(want, file(name, "012345"[:n], n))
	}
	r.holds(want...)
}

// P9.3: what a crash leaves is kept: another one takes nothing away.
func TestCrashTwice(t *testing.T) {
	r := newRig(t)
	r.put("a", "abc", "defgh")
	r.put("b", "", "xyz")
	r.d.Crash([]int{2, 1})
	for _, cuts := range [][]int{nil, {0, 0}, {5, 5}, {-1, -1}} {
		r.d.Crash(cuts)
		r.holds(file("a", "abcde", 5), file("b", "x", 1))
	}
	r.told("append", r.d.Append("a", []byte("XY")), api.OK)
	r.holds(file("a", "abcdeXY", 5), file("b", "x", 1))
	r.d.Crash([]int{1})
	r.holds(file("a", "abcdeX", 6), file("b", "x", 1))
}

// P9.3: a crash mends power, and takes its fuse away; it is no act, and needs no power.
func TestCrashMends(t *testing.T) {
	for _, fuse := range []int{-1, 0, 1, 5} {
		for _, off := range []bool{false, true} {
			r := newRig(t)
			r.put("a", "abc", "de")
			if off {
				r.p.Fuse(0)
				goesOff(t, r.p)
			}
			r.p.Fuse(fuse)
			r.d.Crash([]int{1})
			acts(t, r.p, 100)
			r.holds(file("a", "abcd", 4))
		}
	}
}

// P9.3: a crash of no files mends too.
func TestCrashOfNothing(t *testing.T) {
	for _, cuts := range [][]int{nil, {}, {1, 2}} {
		r := newRig(t)
		r.p.Fuse(0)
		goesOff(t, r.p)
		r.d.Crash(cuts)
		acts(t, r.p, 10)
		r.holds()
	}
}

// P9.5: what was synced is there behind any crash, whatever was appended, or done to other files, or failed.
func TestKept(t *testing.T) {
	for _, cut := range someCuts() {
		r := newRig(t)
		r.put("a", "synced", "")
		all := "synced"
		for i := range 4 {
			r.told("append", r.d.Append("a", bytes.Repeat([]byte{byte('0' + i)}, i+1)), api.OK)
			all += strings.Repeat(string(rune('0'+i)), i+1)
		}
		r.told("append too much", r.d.Append("a", make([]byte, api.MaxFile)), api.EFULL)
		r.put("b", "xyz", "more")
		r.told("remove", r.d.Remove("b"), api.OK)
		r.p.Fuse(0)
		r.told("append without power", r.d.Append("a", []byte("lost")), api.EDOWN)
		r.told("sync without power", r.d.Sync("a"), api.EDOWN)
		r.d.Crash([]int{cut})
		got, e := r.d.Read("a")
		if e != api.OK || !strings.HasPrefix(string(got), "synced") || !strings.HasPrefix(all, string(got)) {
			t.Errorf("cut %d: %d, %q", cut, e, got)
		}
	}
}

// P9.5: it goes with a file that gets another name.
func TestKeptAcrossRename(t *testing.T) {
	r := newRig(t)
	r.put("head", "old", "")
	r.put("head.new", "newer", "loose")
	r.told("rename", r.d.Rename("head.new", "head"), api.OK)
	r.d.Crash([]int{0})
	r.holds(file("head", "newer", 5))
}
