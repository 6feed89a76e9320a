package resp

import (
	"bytes"
	"strings"

	"intaglio/api"
	"intaglio/verb"
)

// What a decoder takes at most.
const (
	maxLine   = 16        // bytes of a line of a command
	maxCount  = 999999999 // in a line of a command
	maxBulk   = 1 << 16   // bytes of a reply's text
	maxList   = 1000      // replies of a list
	maxNested = 8         // lists in one another
)

// absent is the count of a text, or a list, that is not there.
const absent = -1

// decoder reads bytes from left to right.
type decoder struct{ left []byte }

// code is why a decoder can't go on. It is given up by a panic.
type code api.Errno

func giveUp(e api.Errno) { panic(code(e)) }

// need gives up, unless what stands there has its form.
func need(formed bool) {
	if !formed {
		giveUp(api.EFORM)
	}
}

// attempt is why reading was given up; OK, if it wasn't.
func attempt(read func()) (e api.Errno) {
	defer func() {
		switch why := recover().(type) {
		case nil:
		case code:
			e = api.Errno(why)
		default:
			panic(why)
		}
	}()
	read()
	return api.OK
}

// take is the next n bytes.
func (d *decoder) take(n int) []byte {
	if n > len(d.left) {
		giveUp(api.ESHORT)
	}
	b := d.left[:n]
	d.left = d.left[n:]
	return b
}

// ended is what stands ahead of the bytes with which a line must end.
func ended(b []byte) []byte {
	b, is := bytes.CutSuffix(b, []byte(lineEnd))
	need(is)
	return b
}

// text is the next text, of n bytes.
func (d *decoder) text(n int) []byte { return ended(d.take(n + len(lineEnd))) }

// line is the next line: its first byte, and what is behind it. It must end among the next bytes, so many.
func (d *decoder) line(most int) (sign byte, rest string) {
	seen := d.left[:min(most, len(d.left))]
	end := bytes.IndexByte(seen, '\n')
	need(end >= 0 || len(seen) < most)
	if end < 0 {
		giveUp(api.ESHORT)
	}
	line := ended(d.take(end + 1))
	need(len(line) > 0)
	return line[0], string(line[1:])
}

// count is the number of a line that must begin with a sign.
func (d *decoder) count(sign byte, most int) int {
	s, rest := d.line(maxLine)
	n, ok := verb.Int(rest)
	need(s == sign && ok && n >= 0 && n <= maxCount)
	if n > most {
		giveUp(api.ELONG)
	}
	return n
}

// command is the words of the next command.
func (d *decoder) command() [][]byte {
	var l [][]byte
	for range d.count('*', api.MaxArgs) {
		l = append(l, d.text(d.count('$', api.MaxText)))
	}
	return l
}

// reply is the next reply, that stands in so many lists.
func (d *decoder) reply(nested int) api.Reply {
	sign, rest := d.line(len(d.left) + 1)
	switch sign {
	case '+':
		return api.Reply{Kind: api.RSimple, Text: lineText(rest)}
	case '-':
		return api.Reply{Kind: api.RError, Text: lineText(rest)}
	case ':':
		n, ok := verb.Int(rest)
		need(ok)
		return api.Reply{Kind: api.RInt, Int: n}
	case '$':
		return d.bulk(length(rest))
	}
	need(sign == '*')
	return d.list(length(rest), nested)
}

// lineText is a text that stands in a line, if it may.
func lineText(s string) string {
	need(!strings.Contains(s, "\r"))
	return s
}

// length is how long something is, or that it is absent.
func length(s string) int {
	n, ok := verb.Int(s)
	need(ok && n >= absent)
	return n
}

// bulk is a reply that is a text of n bytes.
func (d *decoder) bulk(n int) api.Reply {
	if n == absent {
		return api.Reply{Kind: api.RNil}
	}
	if n > maxBulk {
		giveUp(api.ELONG)
	}
	return api.Reply{Kind: api.RBulk, Text: string(d.text(n))}
}

// list is a reply that is a list of n replies, and stands in so many lists.
func (d *decoder) list(n, nested int) api.Reply {
	if n == absent {
		return api.Reply{Kind: api.RNone}
	}
	need(nested < maxNested)
	if n > maxList {
		giveUp(api.ELONG)
	}
	out := api.Reply{Kind: api.RArray}
	for range n {
		out.List = append(out.List, d.reply(nested+1))
	}
	return out
}

// Decode is the reply with which bytes begin, and how many it has.
func Decode(b []byte) (r api.Reply, n int, e api.Errno) {
	d := &decoder{b}
	e = attempt(func() { r = d.reply(0) })
	if e != api.OK {
		return api.Reply{}, 0, e
	}
	return r, len(b) - len(d.left), api.OK
}
