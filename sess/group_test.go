package sess_test

import (
	"bytes"
	"encoding/hex"
	"math"
	"math/rand"
	"slices"
	"strings"
	"testing"

	"intaglio/api"
	"intaglio/sess"
	"intaglio/store"
)

// decodes asks for the group that the chapter's words tell of bytes, and whether there is one.
func decodes(t *testing.T, b []byte) bool {
	t.Helper()
	own := append(slices.Clone(b), 7, 7)
	g, ok := sess.Decode(own[:len(b)])
	want, there := plainDecode(b)
	if ok != there || show(g) != show(want) {
		t.Fatalf("%x: %.300v, %v, want %.300v, %v", b[:min(len(b), 100)], g, ok, want, there)
	}
	if !bytes.Equal(own[:len(b)], b) || own[len(b)] != 7 {
		t.Fatalf("%x was changed", b)
	}
	if ok && !bytes.Equal(sess.Encode(g), b) {
		t.Fatalf("%x is decoded to %.300v, that has other bytes", b[:min(len(b), 100)], g)
	}
	return ok
}

// encodes asks for the bytes of a group.
func encodes(t *testing.T, g sess.Group) []byte {
	t.Helper()
	ahead := show(g)
	b := sess.Encode(g)
	if !bytes.Equal(b, plainEncode(g)) || show(g) != ahead {
		t.Fatalf("%.300v: %x", g, b)
	}
	return b
}

// commands are n commands, of so many words of so many bytes.
func commands(n, words, size int) [][]string {
	var l [][]string
	for range n {
		l = append(l, slices.Repeat([]string{long(size)}, words))
	}
	return l
}

// P24.2: the bytes of a group, one by one.
func TestEncode(t *testing.T) {
	for _, x := range []struct {
		g    sess.Group
		want string
	}{
		{sess.Group{}, "000000000000000000000000000000000000000000000000"},
		{sess.Group{Now: 3, Draw: -1, Commands: [][]string{{"INCR", "k"}}}, "0000000000000003ffffffffffffffff0000000000000001" + "0000000000000002" + "00000004494e4352" + "000000016b"},
		{sess.Group{Now: -5, Draw: 258, Commands: [][]string{nil, {""}}}, "000000000000000000000000000001020000000000000002" + "0000000000000000" + "000000000000000100000000"},
		{sess.Group{Now: math.MaxInt, Draw: math.MinInt}, "7fffffffffffffff80000000000000000000000000000000"},
	} {
		if got := hex.EncodeToString(encodes(t, x.g)); got != x.want {
			t.Errorf("%v: %s, want %s", x.g, got, x.want)
		}
	}
}

// P24.2: what is encoded is decoded, within its limits, and beyond them not.
func TestLimits(t *testing.T) {
	for _, x := range []struct {
		now, n, words, size int
		want                bool
	}{
		{0, 1, 1, 0, true}, {1, 1, 1, 1, true}, {1 << 40, 1, 1, 1, true}, {1<<40 + 1, 1, 1, 1, false}, {math.MaxInt, 1, 1, 1, false}, {-1, 1, 1, 1, true},
		{1, 0, 0, 0, false}, {1, 20, 3, 5, true}, {1, 21, 3, 5, true}, {1, 22, 3, 5, false}, {1, 300, 3, 5, false},
		{1, 1, 0, 0, false}, {1, 21, 0, 0, false}, {1, 1, 39, 5, true}, {1, 1, 40, 5, true}, {1, 1, 41, 5, false}, {1, 21, 40, 5, true}, {1, 21, 41, 5, false},
		{1, 1, 1, 511, true}, {1, 1, 1, 512, true}, {1, 1, 1, 513, false}, {1, 21, 40, 512, true}, {1, 21, 40, 513, false}, {1, 2, 2, 70000, false},
	} {
		for _, draw := range []int{0, 1, -1, math.MaxInt, math.MinInt, 1<<40 + 1} {
			b := encodes(t, sess.Group{Now: x.now, Draw: draw, Commands: commands(x.n, x.words, x.size)})
			if decodes(t, b) != x.want {
				t.Errorf("%v: %v", x, !x.want)
			}
		}
	}
	// The limits hold for each command, and each word.
	for i := range 3 {
		for _, c := range [][]string{nil, slices.Repeat([]string{"x"}, 41), {long(513)}, {"x", long(513)}} {
			g := sess.Group{Commands: commands(3, 2, 2)}
			g.Commands[i] = c
			if decodes(t, encodes(t, g)) {
				t.Errorf("decoded: %.100v", g)
			}
		}
	}
}

// P24.2: bytes that are cut, turned, or have others behind them.
func TestOtherBytes(t *testing.T) {
	g := sess.Group{Now: 1 << 39, Draw: -3, Commands: [][]string{{"SET", "k", "v"}, {""}, {"PING", "x"}}}
	b := encodes(t, g)
	if !decodes(t, b) {
		t.Fatal("not decoded")
	}
	for n := range b {
		if decodes(t, b[:n]) {
			t.Errorf("%d bytes of %d are decoded", n, len(b))
		}
	}
	for _, more := range []string{"\x00", "x", string(b), strings.Repeat("\x00", 8)} {
		if decodes(t, append(slices.Clone(b), more...)) {
			t.Errorf("decoded with %q behind it", more)
		}
	}
	for i := range b {
		for bit := range 8 {
			c := slices.Clone(b)
			c[i] ^= 1 << bit
			decodes(t, c)
		}
		for _, by := range []byte{0, 1, 20, 21, 22, 40, 41, 255} {
			c := slices.Clone(b)
			c[i] = by
			decodes(t, c)
		}
	}
	decodes(t, nil)
}

// P24.2: any bytes, and any groups.
func TestAnyBytes(t *testing.T) {
	rnd := rand.New(rand.NewSource(4))
	saw := map[bool]int{}
	for range 30000 {
		g := sess.Group{Now: rnd.Intn(1 << 41), Draw: int(rnd.Uint64())}
		for range rnd.Intn(24) {
			g.Commands = append(g.Commands, slices.Repeat([]string{long(rnd.Intn(3))}, 1+rnd.Intn(3)))
		}
		b := encodes(t, g)
		for range rnd.Intn(4) {
			i := rnd.Intn(len(b))
			switch rnd.Intn(4) {
			case 0:
				b[i] ^= 1 << rnd.Intn(8)
			case 1:
				b = b[:i]
			case 2:
				b = slices.Insert(b, i, byte(rnd.Intn(3)))
			}
			if len(b) == 0 {
				break
			}
		}
		saw[decodes(t, b)]++
	}
	if saw[true] < 3000 || saw[false] < 3000 {
		t.Errorf("the test is wrong: %v", saw)
	}
}

// P24.2: bytes that tell of much that is not there do not take long.
func TestMuchThatIsNotThere(t *testing.T) {
	b := make([]byte, 32)
	for i := range b {
		b[i] = 255
	}
	decodes(t, b)
	for i := 16; i < 32; i++ {
		b := make([]byte, 32)
		b[i] = 255
		decodes(t, b)
	}
}

// P24.2: Replay does each command of a group, by its time and draw, whatever it tells; also one that no session told.
func TestReplay(t *testing.T) {
	for _, g := range []sess.Group{
		{},
		{Now: 7, Draw: 5, Commands: [][]string{{"SADD", "s", "a", "b", "c"}, {"SPOP", "s"}, {"PEXPIRE", "s", "3"}, {"EXPIRE", "k", "1"}}},
		{Now: -7, Draw: -5, Commands: [][]string{{"PEXPIRE", "k", "10"}, nil, {"NOPE"}, {"MULTI"}, {"SET", "b", "1"}, {"EXEC"}}},
		{Now: math.MaxInt, Commands: [][]string{{"GET", "k"}}},
		{Now: 1 << 41, Commands: [][]string{{"SET", "b", "1"}}},
	} {
		a, b := store.New(plenty), store.New(plenty)
		for _, st := range []*store.Store{a, b} {
			st.Do(0, 0, []string{"SET", "k", "1"})
			st.Do(0, 0, []string{"SET", "z", "1", "PX", "1099511627776"})
		}
		ahead := show(g)
		sess.Replay(a, g)
		for _, args := range g.Commands {
			b.Do(g.Now, g.Draw, args)
		}
		if show(a.Dump()) != show(b.Dump()) || show(g) != ahead {
			t.Errorf("%v: %v, want %v", g, a.Dump(), b.Dump())
		}
		for _, key := range keys() {
			if a.Version(key) != b.Version(key) {
				t.Errorf("%v: version of %s is %d, want %d", g, key, a.Version(key), b.Version(key))
			}
		}
	}
}

// anything is a command, of which most may be.
func anything(rnd *rand.Rand) []string {
	pick := func(s string) string {
		l := strings.Split(s, " ")
		return l[rnd.Intn(len(l))]
	}
	key := func() string { return pick("a b c k l s z") }
	number := func() string { return pick("0 1 2 3 5 -1 9 x") }
	switch rnd.Intn(26) {
	case 0, 1, 2:
		return []string{pick("MULTI multi")}
	case 3, 4, 5:
		return []string{pick("EXEC exec")}
	case 6:
		return []string{pick("DISCARD UNWATCH unwatch")}
	case 7, 8:
		return []string{pick("WATCH watch"), key(), key()}
	case 9:
		return []string{pick("WATCH EXEC DISCARD NOPE GET GET SET")}
	case 10:
		return []string{pick("MULTI EXEC DISCARD UNWATCH NOPE PING"), pick("x yy")}
	case 11:
		return []string{"GET", long(64 + rnd.Intn(2))}
	case 12:
		return texts(rnd.Intn(12000) + 10)
	case 13:
		return []string{pick("SPOP SRANDMEMBER"), pick("s s s a")}
	case 14, 15:
		return []string{"SADD", pick("s s s s l"), number(), number(), number()}
	case 16:
		return []string{pick("PEXPIRE PEXPIREAT EXPIRE"), key(), number()}
	case 17:
		return []string{"SET", key(), number(), pick("PX EX NX"), number()}
	case 18:
		return []string{pick("RENAME RPOPLPUSH"), key(), key()}
	case 19:
		return []string{pick("LPOP RPOP DEL GET INCR DECR TTL"), key()}
	case 20:
		return []string{pick("ZADD HSET"), key(), number(), number()}
	case 21:
		return []string{pick("FLUSHALL DBSIZE PING PING")}
	}
	return []string{pick("INCRBY SET APPEND LPUSH"), key(), number()}
}

// P24.1 to P24.4: any commands of several sessions, one behind the other, at any times, in little memory and in much.
func TestStorm(t *testing.T) {
	saw := map[string]int{}
	for seed := range int64(120) {
		rnd := rand.New(rand.NewSource(seed))
		d := newDesk(t, 1+rnd.Intn(3), []int{plenty, 300, 2000}[rnd.Intn(3)])
		for range 250 {
			d.now, d.draw = d.now+rnd.Intn(3), rnd.Intn(9)-4
			i, n := rnd.Intn(len(d.sessions)), len(d.groups)
			args := anything(rnd)
			open := d.plains[i].open
			r := d.do(i, args...)
			what := strings.ToUpper(args[0])
			if r.Kind == api.RError {
				saw[r.Text]++
			}
			if what == "EXEC" && r.Kind != api.RError {
				saw[what+" "+[]string{6: "list", 7: "none"}[r.Kind]]++
				if len(d.groups) > n && len(d.groups[n].Commands) > 1 {
					saw["EXEC told several"]++
				}
				for _, x := range r.List {
					if x.Kind == api.RError {
						saw["EXEC has an error"]++
					}
				}
			}
			if open && what == "UNWATCH" && r.Text == "QUEUED" {
				saw["UNWATCH queued"]++
			}
		}
		d.whole()
	}
	for _, what := range []string{eInside, eExec, eAbort, eDiscard, eWatch, eMuch, eName, eCount, eKey, "EXEC list", "EXEC none", "EXEC told several", "EXEC has an error", "UNWATCH queued", "OOM no memory left"} {
		if saw[what] < 20 {
			t.Errorf("the test is wrong: %d times %s", saw[what], what)
		}
	}
}
