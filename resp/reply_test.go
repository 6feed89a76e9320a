package resp_test

import (
	"math"
	"math/rand"
	"strconv"
	"strings"
	"testing"

	"intaglio/api"
	"intaglio/resp"
)

func simple(s string) api.Reply { return api.Reply{Kind: api.RSimple, Text: s} }

func failed(s string) api.Reply { return api.Reply{Kind: api.RError, Text: s} }

func number(n int) api.Reply { return api.Reply{Kind: api.RInt, Int: n} }

func bulk(s string) api.Reply { return api.Reply{Kind: api.RBulk, Text: s} }

func null() api.Reply { return api.Reply{Kind: api.RNil} }

func none() api.Reply { return api.Reply{Kind: api.RNone} }

func list(l ...api.Reply) api.Reply { return api.Reply{Kind: api.RArray, List: l} }

// nest is a reply in so many lists.
func nest(r api.Reply, n int) api.Reply {
	for range n {
		r = list(r)
	}
	return r
}

// P19.2: the example, and other words, also more than may be.
func TestCommand(t *testing.T) {
	for _, c := range []struct {
		words []string
		want  string
	}{
		{[]string{"GET", "k"}, "*2\r\n$3\r\nGET\r\n$1\r\nk\r\n"}, {nil, "*0\r\n"}, {[]string{}, "*0\r\n"}, {[]string{""}, "*1\r\n$0\r\n\r\n"}, {[]string{"\r\n", "é\x00"}, "*2\r\n$2\r\n\r\n\r\n$3\r\né\x00\r\n"},
		{[]string{long(513)}, "*1\r\n$513\r\n" + long(513) + "\r\n"}, {make([]string, 41), "*41\r\n" + strings.Repeat("$0\r\n\r\n", 41)}, {[]string{long(100000)}, "*1\r\n$100000\r\n" + long(100000) + "\r\n"},
	} {
		words := append([]string(nil), c.words...)
		got := resp.Command(words)
		if string(got) != c.want {
			t.Errorf("%.200q: %.200q", c.words, got)
		}
		clear(got[:cap(got)])
		if again := string(resp.Command(c.words)); again != c.want {
			t.Errorf("%.200q again: %.200q", c.words, again)
		}
	}
}

// P19.2: replies of every kind, and of none.
func TestEncode(t *testing.T) {
	for _, c := range []struct {
		r    api.Reply
		want string
	}{
		{simple("OK"), "+OK\r\n"}, {simple(""), "+\r\n"}, {simple("a\r\nb\rc\nd"), "+a  b c d\r\n"}, {simple("\r\n"), "+  \r\n"}, {simple("\n\n\r\r"), "+    \r\n"}, {simple("é\xff\x00"), "+é\xff\x00\r\n"}, {simple(long(5000)), "+" + long(5000) + "\r\n"},
		{failed("ERR x"), "-ERR x\r\n"}, {failed(""), "-\r\n"}, {failed("a\r\nb"), "-a  b\r\n"}, {failed("\xff\r"), "-\xff \r\n"},
		{number(0), ":0\r\n"}, {number(-7), ":-7\r\n"}, {number(math.MaxInt), ":9223372036854775807\r\n"}, {number(math.MinInt), ":-9223372036854775808\r\n"},
		{bulk("abc"), "$3\r\nabc\r\n"}, {bulk(""), "$0\r\n\r\n"}, {bulk("a\r\nb"), "$4\r\na\r\nb\r\n"}, {bulk("é"), "$2\r\né\r\n"}, {bulk(long(65537)), "$65537\r\n" + long(65537) + "\r\n"},
		{null(), "$-1\r\n"}, {none(), "*-1\r\n"}, {list(), "*0\r\n"}, {list(number(1), bulk("a"), null()), "*3\r\n:1\r\n$1\r\na\r\n$-1\r\n"}, {list(list(), list(none(), list(simple("x")))), "*2\r\n*0\r\n*2\r\n*-1\r\n*1\r\n+x\r\n"},
		{api.Reply{}, ""}, {api.Reply{Kind: 8, Text: "x", Int: 1}, ""}, {api.Reply{Kind: -1, Text: "x"}, ""}, {api.Reply{Kind: math.MaxInt}, ""}, {api.Reply{Kind: math.MinInt, List: []api.Reply{number(1)}}, ""}, {list(api.Reply{}, number(1), api.Reply{Kind: 9}), "*3\r\n:1\r\n"},
		// What the kind does not have is not told.
		{api.Reply{Kind: api.RInt, Int: 5, Text: "x", List: []api.Reply{number(1)}}, ":5\r\n"}, {api.Reply{Kind: api.RNil, Int: 5, Text: "x"}, "$-1\r\n"}, {api.Reply{Kind: api.RNone, Int: 5, List: []api.Reply{number(1)}}, "*-1\r\n"}, {api.Reply{Kind: api.RBulk, Int: 5, Text: "x"}, "$1\r\nx\r\n"}, {api.Reply{Kind: api.RArray, Int: 5, Text: "x"}, "*0\r\n"}, {api.Reply{Kind: api.RSimple, Int: 5, Text: "x"}, "+x\r\n"},
		{nest(number(1), 20), strings.Repeat("*1\r\n", 20) + ":1\r\n"}, {nest(list(), 5000), strings.Repeat("*1\r\n", 5000) + "*0\r\n"},
	} {
		if got := string(resp.Encode(c.r)); got != c.want || plainEncode(c.r) != c.want {
			t.Errorf("%.200v: %.200q, want %.200q", c.r, got, c.want)
		}
	}
}

// P19.2: replies of as many parts as a list may have, and more.
func TestEncodeMany(t *testing.T) {
	for _, n := range []int{9, 10, 999, 1000, 1001, 5000} {
		r := api.Reply{Kind: api.RArray}
		for i := range n {
			r.List = append(r.List, list(number(i), bulk(strconv.Itoa(i))))
		}
		b := resp.Encode(r)
		if string(b) != plainEncode(r) {
			t.Errorf("%d replies", n)
		}
		if back, size, e := decoded(t, string(b)); n <= 1000 && (e != api.OK || size != len(b) || !sameReply(back, r)) || n > 1000 && e != api.ELONG {
			t.Errorf("%d replies: %d", n, e)
		}
	}
}

// P19.3: replies with whatever behind them; in what is told no field has what its kind does not have.
func TestDecode(t *testing.T) {
	for s, want := range map[string]api.Reply{
		"+OK\r\n": simple("OK"), "+\r\n": simple(""), "+a b\xff\x00\r\n": simple("a b\xff\x00"), "-ERR x\r\n": failed("ERR x"), "-\r\n": failed(""), "++\r\n": simple("+"), ":0\r\n": number(0), ":-7\r\n": number(-7), ":9223372036854775807\r\n": number(math.MaxInt), ":-9223372036854775808\r\n": number(math.MinInt),
		"$0\r\n\r\n": bulk(""), "$3\r\nabc\r\n": bulk("abc"), "$4\r\na\r\nb\r\n": bulk("a\r\nb"), "$2\r\n\r\n\r\n": bulk("\r\n"), "$-1\r\n": null(), "*-1\r\n": none(), "*0\r\n": list(), "*2\r\n:7\r\n$-1\r\n": list(number(7), null()), "*1\r\n*1\r\n*-1\r\n": list(list(none())), "*3\r\n*0\r\n+a\r\n-b\r\n": list(list(), simple("a"), failed("b")),
		"$65536\r\n" + long(65536) + "\r\n": bulk(long(65536)), "*1000\r\n" + strings.Repeat(":1\r\n", 1000): list(many(1000)...),
	} {
		for _, rest := range []string{"", "rest", "\r\n", "\n", ":1\r\n", "$-2\r\n"} {
			if r, n, e := decoded(t, s+rest); e != api.OK || n != len(s) || !sameReply(r, want) {
				t.Errorf("%.100q: %.100v, %d, %d", s+rest, r, n, e)
			}
		}
		// Of fewer bytes, at each place, more must come.
		for i := range len(s) {
			if i > 300 && i < len(s)-300 {
				continue
			}
			if _, _, e := decoded(t, s[:i]); e != api.ESHORT {
				t.Errorf("%.100q, %d bytes of it: %d", s, i, e)
			}
		}
	}
}

// many are so many replies.
func many(n int) []api.Reply {
	var l []api.Reply
	for range n {
		l = append(l, number(1))
	}
	return l
}

// P19.3: what has no form is told, as the first from left to right; also in lists, and with anything behind.
func TestDecodeErrors(t *testing.T) {
	for s, want := range map[string]api.Errno{
		"": api.ESHORT, "+": api.ESHORT, "+OK": api.ESHORT, "+OK\r": api.ESHORT, "x": api.ESHORT, "x\r": api.ESHORT, "$": api.ESHORT, "$3\r\n": api.ESHORT, "$3\r\nab": api.ESHORT, "$3\r\nabc": api.ESHORT, "$3\r\nabc\r": api.ESHORT, "$3\r\nabcx": api.ESHORT, "*1\r\n": api.ESHORT, "*2\r\n:1\r\n": api.ESHORT, ":1x": api.ESHORT, "*1000\r\n": api.ESHORT, "$65536\r\n": api.ESHORT, "$0\r\n": api.ESHORT, "$0\r\n\r": api.ESHORT, "$0\r\nx": api.ESHORT, long(100): api.ESHORT, "+" + long(70000): api.ESHORT,
	} {
		if _, _, e := decoded(t, s); e != want {
			t.Errorf("%.100q: %d, want %d", s, e, want)
		}
	}
	for s, want := range map[string]api.Errno{
		"\n": api.EFORM, "\r\n": api.EFORM, "+OK\n": api.EFORM, "+\n": api.EFORM, ":1\n": api.EFORM, "$-1\n": api.EFORM, "x\r\n": api.EFORM, "OK\r\n": api.EFORM, " +OK\r\n": api.EFORM, "\x00\r\n": api.EFORM, "#1\r\n": api.EFORM, "_\r\n": api.EFORM, "1\r\n": api.EFORM,
		"+a\rb\r\n": api.EFORM, "+\r\r\n": api.EFORM, "-\ra\r\n": api.EFORM, "-a\r\r\n": api.EFORM, ":\r\n": api.EFORM, ":a\r\n": api.EFORM, ":01\r\n": api.EFORM, ":-0\r\n": api.EFORM, ":+1\r\n": api.EFORM, ": 1\r\n": api.EFORM, ":1 \r\n": api.EFORM, ":1\r\r\n": api.EFORM, ":1.0\r\n": api.EFORM, ":9223372036854775808\r\n": api.EFORM, ":-9223372036854775809\r\n": api.EFORM,
		"$\r\n": api.EFORM, "$-2\r\n": api.EFORM, "$-9223372036854775808\r\n": api.EFORM, "$01\r\n": api.EFORM, "$-0\r\n": api.EFORM, "$+1\r\n": api.EFORM, "$a\r\n": api.EFORM, "$1\r\r\n": api.EFORM, "$9223372036854775808\r\n": api.EFORM, "$3\r\nabcde": api.EFORM, "$3\r\nabc\n\r": api.EFORM, "$3\r\nabc\r\r": api.EFORM, "$3\r\nabc\n\n": api.EFORM, "$0\r\nab": api.EFORM, "$2\r\na\r\nb": api.EFORM, "$3\r\na\r\nb\r\n\r": api.EFORM,
		"*\r\n": api.EFORM, "*-2\r\n": api.EFORM, "*-9223372036854775808\r\n": api.EFORM, "*01\r\n": api.EFORM, "*-0\r\n": api.EFORM, "*a\r\n": api.EFORM, "*9223372036854775808\r\n": api.EFORM, "*2\r\n:1\r\nx\r\n": api.EFORM, "*2\r\n:x\r\n": api.EFORM, "*2\r\n$1\r\nabc": api.EFORM, "*1\r\n*-2\r\n": api.EFORM,
		"$65537\r\n": api.ELONG, "$100000\r\n" + long(100000) + "\r\n": api.ELONG, "$9223372036854775807\r\n": api.ELONG, "$9223372036854775806\r\n": api.ELONG, "*1001\r\n": api.ELONG, "*9223372036854775807\r\n": api.ELONG, "*2\r\n$65537\r\n": api.ELONG, "*2\r\n*1001\r\n": api.ELONG, "*1001\r\nx\r\n": api.ELONG, "$65537\r\nx\r\n": api.ELONG,
	} {
		for _, head := range []string{"", "*1\r\n", "*3\r\n:1\r\n", "*2\r\n*2\r\n+a\r\n"} {
			for _, rest := range []string{"", ":1\r\n", "\r\n"} {
				r, n, e := decoded(t, head+s+rest)
				if e != want || n != 0 || !sameReply(r, api.Reply{}) || r.List != nil {
					t.Errorf("%.100q: %d %d, want %d", head+s+rest, n, e, want)
				}
			}
		}
	}
}

// P19.3: a list stands in seven lists at most; what is no list may stand in eight.
func TestNested(t *testing.T) {
	for n := range 12 {
		for _, c := range []struct {
			s      string
			isList bool
			e      api.Errno
		}{
			{":1\r\n", false, api.OK}, {"$1\r\na\r\n", false, api.OK}, {"$-1\r\n", false, api.OK}, {"*-1\r\n", false, api.OK}, {"*0\r\n", true, api.OK}, {"*1\r\n:1\r\n", true, api.OK}, {"*2\r\n:1\r\n:2\r\n", true, api.OK}, {"*1\r\n", true, api.ESHORT}, {"*1001\r\n", true, api.ELONG}, {"*-2\r\n", false, api.EFORM}, {"*", false, api.ESHORT}, {"$65537\r\n", false, api.ELONG},
		} {
			for _, head := range []string{"*1\r\n", "*2\r\n:5\r\n", "*2\r\n*1\r\n+a\r\n"} {
				// The last head has a list ahead that stands in as many lists as what is behind it.
				isList := c.isList || strings.Contains(head, "+")
				want := c.e
				if n > 8 || n == 8 && isList {
					want = api.EFORM
				}
				s := strings.Repeat(head, n) + c.s
				if _, _, e := decoded(t, s); e != want {
					t.Errorf("%q: %d, want %d", s, e, want)
				}
			}
		}
	}
	for n, want := range map[int]api.Errno{7: api.OK, 8: api.EFORM, 9: api.EFORM, 100: api.EFORM, 5000: api.EFORM} {
		r := nest(list(), n) // a list that stands in n lists
		if back, _, e := decoded(t, string(resp.Encode(r))); e != want || e == api.OK && !sameReply(back, r) {
			t.Errorf("a list in %d lists: %d", n, e)
		}
	}
}

// anyReply is a reply that has a form.
func anyReply(rnd *rand.Rand, nested int) api.Reply {
	b := make([]byte, rnd.Intn(1+rnd.Intn(40)))
	for i := range b {
		b[i] = "\r\n:$*+-019aé\xff\x00"[rnd.Intn(15)]
	}
	plain := strings.NewReplacer("\r", "", "\n", "").Replace(string(b))
	switch rnd.Intn(9) {
	case 0:
		return simple(plain)
	case 1:
		return failed(plain)
	case 2:
		return number(int(rnd.Uint64()) >> rnd.Intn(64))
	case 3, 4:
		return bulk(string(b))
	case 5:
		return null()
	case 6:
		return none()
	}
	if nested == 8 {
		return null()
	}
	out := list()
	for range rnd.Intn(5) {
		out.List = append(out.List, anyReply(rnd, nested+1))
	}
	return out
}

// P19.4: what was encoded of replies that have a form is decoded; of fewer bytes more must come; of edited ones what the chapter says.
func TestReplyBack(t *testing.T) {
	rnd := rand.New(rand.NewSource(6))
	for range 20000 {
		r := anyReply(rnd, 0)
		s := string(resp.Encode(r))
		if s != plainEncode(r) {
			t.Fatalf("%v: %q", r, s)
		}
		rest := strings.Repeat("+", rnd.Intn(3))
		if back, n, e := decoded(t, s+rest); e != api.OK || n != len(s) || !sameReply(back, r) {
			t.Fatalf("%q: %v %d %d", s, back, n, e)
		}
		if _, _, e := decoded(t, s[:rnd.Intn(len(s))]); e != api.ESHORT {
			t.Fatalf("a part of %q: %d", s, e)
		}
		b := []byte(s)
		for range 1 + rnd.Intn(3) {
			b[rnd.Intn(len(b))] = "\r\n:$*+-0123a"[rnd.Intn(12)]
		}
		decoded(t, string(b))
	}
}

// P1: an answer is new memory: what becomes of the bytes is not seen in it, and no two lists share any.
func TestReplyMemory(t *testing.T) {
	b := []byte("*3\r\n$1\r\na\r\n*2\r\n:1\r\n:2\r\n*1\r\n+b\r\n")
	one, _, _ := resp.Decode(b)
	two, _, _ := resp.Decode(b)
	want, _, _ := plainDecode(string(b), 0)
	clear(b)
	clear(one.List[1].List)
	_ = append(one.List[1].List[:2], number(9))
	if !sameReply(one.List[2], want.List[2]) || !sameReply(one.List[0], want.List[0]) || !sameReply(two, want) {
		t.Errorf("%v %v", one, two)
	}
	got := resp.Encode(two)
	clear(got[:cap(got)])
	if string(resp.Encode(two)) != plainEncode(want) || !sameReply(two, want) {
		t.Error("Encode's answer is kept")
	}
}
