package resp_test

import (
	"math/rand"
	"strconv"
	"strings"
	"testing"

	"intaglio/api"
	"intaglio/resp"
)

// lines are lines one behind the other; a blank is 13 10.
func lines(s string) string { return strings.ReplaceAll(s, " ", "\r\n") }

// word is a word as a command's bytes have it.
func word(s string) string { return "$" + strconv.Itoa(len(s)) + "\r\n" + s + "\r\n" }

// command is a command's bytes.
func command(words ...string) string {
	s := "*" + strconv.Itoa(len(words)) + "\r\n"
	for _, w := range words {
		s += word(w)
	}
	return s
}

// tells feeds bytes in all pieces, and asks for what is told in all.
func tells(t *testing.T, all string, want [][]string, left int, e api.Errno) {
	t.Helper()
	cuts(t, all)
	p := resp.New()
	if l, got := p.Feed([]byte(all)); !sameCommands(l, want) || got != e || p.Left() != left {
		t.Errorf("%.200q: %q, %d, %d left, want %q, %d, %d left", all, l, got, p.Left(), want, e, left)
	}
}

// P19.1, P19.5: commands one behind the other, in whatever pieces their bytes come.
func TestFeed(t *testing.T) {
	k := command("GET", "k")
	tells(t, "", nil, 0, api.OK)
	tells(t, k, [][]string{{"GET", "k"}}, 0, api.OK)
	tells(t, k+k, [][]string{{"GET", "k"}, {"GET", "k"}}, 0, api.OK)
	tells(t, lines("*1 $4 PING *0 *2 $3 GET $1"), [][]string{{"PING"}}, 15, api.OK)
	tells(t, lines("*0 "), nil, 0, api.OK)
	tells(t, lines("*0 *0 *0 *"), nil, 1, api.OK)
	tells(t, lines("*2 $0  $0  "), [][]string{{"", ""}}, 0, api.OK)
	tells(t, command("", "\r\n", "*1\r\n$1\r\n", "\x00\xff", "é", "\n", "\r")+"*", [][]string{{"", "\r\n", "*1\r\n$1\r\n", "\x00\xff", "é", "\n", "\r"}}, 1, api.OK)
	tells(t, command("SET", "k", long(100))+"*0\r\n"+command("x"), [][]string{{"SET", "k", long(100)}, {"x"}}, 0, api.OK)
	tells(t, lines("*2 $3 GET "), nil, 13, api.OK)
	tells(t, lines("*2 $3 GET $1 k"), nil, 18, api.OK)
	tells(t, lines("*2 $3 GET $1 k")+"\r", nil, 19, api.OK)
}

// P19.1: a fault ends all: commands ahead of it are told with it, and none behind it.
func TestFault(t *testing.T) {
	get := [][]string{{"GET", "k"}}
	k := command("GET", "k")
	for all, e := range map[string]api.Errno{
		"*01\r\n": api.EFORM, "\n": api.EFORM, "\r\n": api.EFORM, "*\r\n": api.EFORM, "*1\n": api.EFORM, "1\r\n": api.EFORM, "$1\r\na\r\n": api.EFORM, "PING\r\n": api.EFORM, "*-1\r\n": api.EFORM, "*-0\r\n": api.EFORM, "*+1\r\n": api.EFORM, "* 1\r\n": api.EFORM, "*1 \r\n": api.EFORM, "*1a\r\n": api.EFORM, "*1\r\r\n": api.EFORM, "*\n1\r\n": api.EFORM, "**1\r\n": api.EFORM, "*00\r\n": api.EFORM, " *1\r\n": api.EFORM, "*1\x00\r\n": api.EFORM, "*\xd9\xa1\r\n": api.EFORM, "*1.0\r\n": api.EFORM, "*0x1\r\n": api.EFORM, "*1_0\r\n": api.EFORM,
		"*41\r\n": api.ELONG, "*42\r\n": api.ELONG, "*100\r\n": api.ELONG, "*999999999\r\n": api.ELONG, "*1000000000\r\n": api.EFORM, "*9999999999\r\n": api.EFORM, "*0999999999\r\n": api.EFORM, "*0000000040\r\n": api.EFORM, "*99999999999999999999\r\n": api.EFORM, "*4294967297\r\n": api.EFORM,
		"*1\r\n*1\r\n": api.EFORM, "*1\r\n$513\r\n": api.ELONG, "*1\r\n$999999999\r\n": api.ELONG, "*1\r\n$1000000000\r\n": api.EFORM, "*1\r\n$-1\r\n": api.EFORM, "*1\r\n$01\r\n": api.EFORM, "*1\r\n$00\r\n": api.EFORM, "*1\r\n$\r\n": api.EFORM, "*1\r\n1\r\n": api.EFORM, "*1\r\n\n": api.EFORM, "*1\r\nPING\r\n": api.EFORM,
		"*1\r\n$1\r\nabc": api.EFORM, "*1\r\n$1\r\na\n\r": api.EFORM, "*1\r\n$1\r\na\r\r": api.EFORM, "*1\r\n$1\r\na\n\n": api.EFORM, "*1\r\n$0\r\nab": api.EFORM, "*1\r\n$0\r\n*1": api.EFORM, "*1\r\n$2\r\na\r\nb": api.EFORM, "*2\r\n$1\r\na\r\n*1\r\n": api.EFORM, "*2\r\n$1\r\na\r\n\r\n": api.EFORM, "*1\r\n$3\r\na\r\nbc\r\n": api.EFORM,
	} {
		tells(t, all, nil, 0, e)
		tells(t, k+all, get, 0, e)
		tells(t, all+k, nil, 0, e)
		tells(t, k+"*0\r\n"+all+k+"*41\r\n", get, 0, e)
	}
	p := resp.New()
	p.Feed([]byte(k + "*1\r\n$1"))
	if l, e := p.Feed([]byte("\r\na\r\n*41\r\n")); e != api.ELONG || len(l) != 1 || l[0][0] != "a" {
		t.Errorf("%q %d", l, e)
	}
	for _, b := range [][]byte{[]byte(k), nil, []byte("\n"), []byte("*01\r\n")} {
		if l, e := p.Feed(b); e != api.ELONG || l != nil || p.Left() != 0 {
			t.Errorf("behind a fault: %q %d, %d left", l, e, p.Left())
		}
	}
}

// P19.1: where a line must stand, a byte 10 must be among sixteen bytes; up to fifteen without one, more must come.
func TestLines(t *testing.T) {
	for _, head := range []string{"", "*1\r\n", command("k") + "*0\r\n*2\r\n$1\r\na\r\n"} {
		for _, fill := range []string{"0", "1", "x", "\r", "\x00"} {
			for n := range 20 {
				for _, end := range []string{"", "\r", "\n", "\r\n"} {
					cuts(t, head+strings.Repeat(fill, n)+end)
					cuts(t, head+"*"+strings.Repeat(fill, n)+end)
					cuts(t, head+"$"+strings.Repeat(fill, n)+end)
				}
			}
		}
	}
	for n, want := range map[int]api.Errno{0: api.OK, 1: api.OK, 14: api.OK, 15: api.OK, 16: api.EFORM, 17: api.EFORM, 100: api.EFORM} {
		for _, fill := range []string{"1", "x", "\r"} {
			p := resp.New()
			if l, e := p.Feed([]byte(strings.Repeat(fill, n))); e != want || l != nil {
				t.Errorf("%d bytes without a 10: %d, want %d", n, e, want)
			}
			if left := p.Left(); want == api.OK && left != n || want != api.OK && left != 0 {
				t.Errorf("%d bytes without a 10: %d left", n, left)
			}
		}
	}
}

// P19.1: each number of words, and of bytes, up to the greatest and beyond.
func TestCounts(t *testing.T) {
	for n := range 60 {
		words := strings.Fields(strings.Repeat("w ", n))
		all := command(words...)
		p := resp.New()
		l, e := p.Feed([]byte(all))
		switch {
		case n == 0 && (e != api.OK || l != nil), n > 0 && n <= 40 && (e != api.OK || !sameCommands(l, [][]string{words})), n > 40 && (e != api.ELONG || l != nil):
			t.Errorf("%d words: %q %d", n, l, e)
		}
		fed(t, all[:len(all)/2], all[len(all)/2:], "*")
		fed(t, strings.Split(all, "")...)
	}
	for _, n := range []int{0, 1, 9, 10, 99, 100, 511, 512, 513, 514, 1000, 65536} {
		all := command("a", long(n), "b")
		p := resp.New()
		l, e := p.Feed([]byte(all))
		if n <= 512 && (e != api.OK || len(l) != 1 || l[0][1] != long(n)) || n > 512 && (e != api.ELONG || l != nil) {
			t.Errorf("%d bytes: %d", n, e)
		}
		if n < 2000 {
			fed(t, strings.Split(all, "")...)
		}
	}
}

// P19.4, P19.5: what Command tells of any words that may be is fed back, in any pieces; the greatest too.
func TestCommandBack(t *testing.T) {
	rnd := rand.New(rand.NewSource(4))
	for range 300 {
		var all string
		var want [][]string
		for range 1 + rnd.Intn(4) {
			words := anyWords(rnd)
			want = append(want, words)
			all += string(resp.Command(words))
		}
		var pieces []string
		for rest := all; rest != ""; {
			n := min(len(rest), 1+rnd.Intn(1+rnd.Intn(200)))
			pieces = append(pieces, rest[:n])
			rest = rest[n:]
		}
		fed(t, pieces...)
		p := resp.New()
		var told [][]string
		for _, piece := range pieces {
			l, e := p.Feed([]byte(piece))
			if told = append(told, l...); e != api.OK {
				t.Fatalf("%d", e)
			}
		}
		if !sameCommands(told, want) || p.Left() != 0 {
			t.Fatalf("%.300q, want %.300q", told, want)
		}
	}
	greatest := string(resp.Command(strings.Fields(strings.Repeat(long(512)+" ", 40))))
	fed(t, greatest[:7000], greatest[7000:], greatest+greatest, greatest[:20000])
	p := resp.New()
	for i := range greatest {
		if l, e := p.Feed([]byte{greatest[i]}); e != api.OK || (len(l) == 1) != (i == len(greatest)-1) || len(l) == 0 && p.Left() != i+1 {
			t.Fatalf("byte %d: %d", i, e)
		}
	}
}

// anyWords are from 1 to 40 words that may be.
func anyWords(rnd *rand.Rand) []string {
	var words []string
	for range 1 + rnd.Intn(1+rnd.Intn(40)) {
		b := make([]byte, rnd.Intn(1+rnd.Intn(513)))
		for i := range b {
			b[i] = "\r\n*$01a\xff"[rnd.Intn(8)]
		}
		words = append(words, string(b))
	}
	return words
}

// P19.1, P19.5: bytes of commands that somebody edited, in any pieces.
func TestEdited(t *testing.T) {
	rnd := rand.New(rand.NewSource(5))
	for range 20000 {
		b := []byte(command("GET", "k") + command("SET", "key", "value") + "*0\r\n" + command("x") + command("\r\n", "", "*1\r\n"))
		for range 1 + rnd.Intn(3) {
			i := rnd.Intn(len(b))
			switch rnd.Intn(3) {
			case 0:
				b[i] = "\r\n*$0123456789ax\x00"[rnd.Intn(17)]
			case 1:
				b = append(b[:i], b[i+1:]...)
			default:
				b = append(b[:i], append([]byte{"\r\n*$0123456789ax\x00"[rnd.Intn(17)]}, b[i:]...)...)
			}
		}
		s := string(b)
		i := rnd.Intn(len(s) + 1)
		j := i + rnd.Intn(len(s)-i+1)
		fed(t, s[:i], s[i:j], s[j:])
	}
}

// P19.1: a parser that New did not make tells nothing, and takes nothing.
func TestUnmade(t *testing.T) {
	for _, p := range []*resp.Parser{nil, new(resp.Parser), {}} {
		for range 2 {
			for _, s := range []string{"", command("GET", "k"), "*1\r\n", "\n"} {
				if l, e := p.Feed([]byte(s)); l != nil || e != api.ENIL || p.Left() != 0 {
					t.Errorf("%q: %q, %d, %d left", s, l, e, p.Left())
				}
			}
			if l, e := p.Feed(nil); l != nil || e != api.ENIL || p.Left() != 0 {
				t.Error("nil")
			}
		}
	}
}

// P1: parsers have nothing in common; what is told stays as it was, whatever is fed behind.
func TestOwnMemory(t *testing.T) {
	p, q := resp.New(), resp.New()
	p.Feed([]byte("*1\r\n$2\r\na"))
	if l, e := q.Feed([]byte("b\r\n")); e != api.EFORM || l != nil {
		t.Errorf("%q %d", l, e)
	}
	room := []byte("b\r\n*1\r\n$1\r\nc\r\n*1\r\n$1\r\n########")
	one, _ := p.Feed(room[:len(room)-8])
	if string(room[len(room)-8:]) != "########" {
		t.Error("spare room was changed")
	}
	clear(room)
	two, e := p.Feed([]byte("d\r\n"))
	if e != api.OK || !sameCommands(one, [][]string{{"ab"}, {"c"}}) || !sameCommands(two, [][]string{{"d"}}) {
		t.Errorf("%q %q %d", one, two, e)
	}
	one[0][0] = "changed"
	_ = append(one[0][:1], "changed")
	if one[1][0] != "c" {
		t.Error("two commands share memory")
	}
}
