package resp_test

import (
	"math/big"
	"slices"
	"strconv"
	"strings"
	"testing"

	"intaglio/api"
	"intaglio/resp"
)

// long is a text of so many bytes.
func long(n int) string { return strings.Repeat("x", n) }

// plainLine is the number of the line that must stand at the beginning of all bytes that are left, by the chapter's words; wait: more must come.
func plainLine(left, sign string, most int) (n, size int, wait bool, e api.Errno) {
	next := left
	if len(next) > 16 {
		next = next[:16]
	}
	end := strings.Index(next, "\n")
	if end < 0 {
		if len(next) == 16 {
			return 0, 0, false, api.EFORM
		}
		return 0, 0, true, api.OK
	}
	line := next[:end+1]
	if !strings.HasPrefix(line, sign) || !strings.HasSuffix(line, "\r\n") || len(line) < 4 || len(line) > 12 {
		return 0, 0, false, api.EFORM
	}
	digits := line[1 : len(line)-2]
	for i, c := range digits {
		if c < '0' || c > '9' || i == 0 && c == '0' && len(digits) > 1 {
			return 0, 0, false, api.EFORM
		}
		n = n*10 + int(c-'0')
	}
	if n > most {
		return 0, 0, false, api.ELONG
	}
	return n, len(line), false, api.OK
}

// plainFeed is what a parser tells in all, once it was fed all these bytes: commands, what is left behind them, and the fault.
func plainFeed(all string) (l [][]string, left int, e api.Errno) {
	for {
		at := all
		n, size, wait, e := plainLine(at, "*", 40)
		var words []string
		for e == api.OK && !wait {
			at = at[size:]
			if len(words) == n {
				break
			}
			var long int
			long, size, wait, e = plainLine(at, "$", 512)
			if e != api.OK || wait {
				break
			}
			at = at[size:]
			if len(at) < long+2 {
				wait = true
			} else if at[long:long+2] != "\r\n" {
				e = api.EFORM
			} else {
				words, size = append(words, at[:long]), long+2
			}
		}
		if e != api.OK {
			return l, 0, e
		}
		if wait {
			return l, len(all), api.OK
		}
		if n > 0 {
			l = append(l, words)
		}
		all = at
	}
}

// sameCommands tells whether two lists of commands are the same.
func sameCommands(a, b [][]string) bool {
	return slices.EqualFunc(a, b, func(x, y []string) bool { return slices.Equal(x, y) })
}

// fed asks a parser that is fed these bytes in pieces, behind each of them, what it tells.
func fed(t *testing.T, pieces ...string) {
	t.Helper()
	p := resp.New()
	all := ""
	var told [][]string
	for _, piece := range pieces {
		_, _, fault := plainFeed(all)
		all += piece
		want, left, e := plainFeed(all)
		b := []byte(piece)
		got, err := p.Feed(b)
		if string(b) != piece {
			t.Fatalf("%.300q: what was handed in was changed", pieces)
		}
		for i := range b {
			b[i] = '?' // so that what is kept of it is seen
		}
		told = append(told, got...)
		if err != e || !sameCommands(told, want) || p.Left() != left || fault != api.OK && len(got) > 0 {
			t.Fatalf("%.300q behind %.300q: %.300q, %d, %d left, want %.300q, %d, %d left", piece, all[:len(all)-len(piece)], told, err, p.Left(), want, e, left)
		}
	}
}

// cuts feeds bytes at once, cut at each byte, and in pieces of every length.
func cuts(t *testing.T, all string) {
	t.Helper()
	fed(t, all)
	fed(t, all, "", "x")
	for i := range len(all) + 1 {
		fed(t, all[:i], all[i:])
	}
	for n := 1; n < len(all); n++ {
		var pieces []string
		for i := 0; i < len(all); i += n {
			pieces = append(pieces, all[i:min(i+n, len(all))])
		}
		fed(t, pieces...)
	}
}

// sameReply tells whether two replies are the same.
func sameReply(a, b api.Reply) bool {
	return a.Kind == b.Kind && a.Text == b.Text && a.Int == b.Int && slices.EqualFunc(a.List, b.List, sameReply)
}

// plainEncode is a reply as bytes, by the chapter's words.
func plainEncode(r api.Reply) string {
	line := strings.ReplaceAll(strings.ReplaceAll(r.Text, "\r", " "), "\n", " ") + "\r\n"
	switch r.Kind {
	case api.RSimple:
		return "+" + line
	case api.RError:
		return "-" + line
	case api.RInt:
		return ":" + strconv.Itoa(r.Int) + "\r\n"
	case api.RBulk:
		return "$" + strconv.Itoa(len(r.Text)) + "\r\n" + r.Text + "\r\n"
	case api.RNil:
		return "$-1\r\n"
	case api.RArray:
		s := "*" + strconv.Itoa(len(r.List)) + "\r\n"
		for _, x := range r.List {
			s += plainEncode(x)
		}
		return s
	case api.RNone:
		return "*-1\r\n"
	}
	return ""
}

// plainDecode is the reply with which a text begins, and what is behind it, by the chapter's words.
func plainDecode(s string, nested int) (r api.Reply, rest string, e api.Errno) {
	line, rest, ends := strings.Cut(s, "\n")
	if !ends {
		return r, "", api.ESHORT
	}
	if line == "\r" || !strings.HasSuffix(line, "\r") {
		return r, "", api.EFORM
	}
	sign, text := line[0], line[1:len(line)-1]
	n, isNum := new(big.Int).SetString(text, 10)
	isNum = isNum && n.String() == text && n.IsInt64()
	switch sign {
	case '+', '-':
		if strings.Contains(text, "\r") {
			return r, "", api.EFORM
		}
		return api.Reply{Kind: map[byte]int{'+': api.RSimple, '-': api.RError}[sign], Text: text}, rest, api.OK
	case ':':
		if !isNum {
			return r, "", api.EFORM
		}
		return api.Reply{Kind: api.RInt, Int: int(n.Int64())}, rest, api.OK
	case '$', '*':
		if !isNum || n.Cmp(big.NewInt(-1)) < 0 {
			return r, "", api.EFORM
		}
	default:
		return r, "", api.EFORM
	}
	count := int(n.Int64())
	switch {
	case sign == '$' && count == -1:
		return api.Reply{Kind: api.RNil}, rest, api.OK
	case sign == '*' && count == -1:
		return api.Reply{Kind: api.RNone}, rest, api.OK
	case sign == '*' && nested >= 8:
		return r, "", api.EFORM
	case sign == '$' && count > 65536 || sign == '*' && count > 1000:
		return r, "", api.ELONG
	case sign == '$' && len(rest) < count+2:
		return r, "", api.ESHORT
	case sign == '$' && rest[count:count+2] != "\r\n":
		return r, "", api.EFORM
	case sign == '$':
		return api.Reply{Kind: api.RBulk, Text: rest[:count]}, rest[count+2:], api.OK
	}
	out := api.Reply{Kind: api.RArray}
	for range count {
		x, behind, e := plainDecode(rest, nested+1)
		if e != api.OK {
			return r, "", e
		}
		out.List = append(out.List, x)
		rest = behind
	}
	return out, rest, api.OK
}

// decoded decodes bytes, and holds what is told against the plain one.
func decoded(t *testing.T, s string) (api.Reply, int, api.Errno) {
	t.Helper()
	b := []byte(s)
	r, n, e := resp.Decode(b)
	want, rest, x := plainDecode(s, 0)
	size := len(s) - len(rest)
	if x != api.OK {
		size = 0
	}
	if string(b) != s {
		t.Fatalf("%.300q was changed", s)
	}
	for i := range b {
		b[i] = '?'
	}
	if !sameReply(r, want) || n != size || e != x {
		t.Fatalf("%.300q: %.300v, %d, %d, want %.300v, %d, %d", s, r, n, e, want, size, x)
	}
	return r, n, e
}
