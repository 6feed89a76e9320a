package verb

import "strings"

// Kinds of a pattern's parts.
const (
	among   = iota // one byte that is told
	outside        // one byte that is not told
	one            // any byte
	many           // any bytes, also none
)

// part is a part of a pattern; of among and outside, text tells bytes.
type part struct {
	kind int
	text string
}

// parts is what a pattern is made of, in order.
func parts(pattern string) []part {
	var l []part
	for pattern != "" {
		p, rest := cutPart(pattern)
		l = append(l, p)
		pattern = rest
	}
	return l
}

// cutPart is the part with which a pattern begins, and what is behind it.
func cutPart(pattern string) (part, string) {
	rest := pattern[1:]
	switch pattern[0] {
	case '*':
		return part{kind: many}, rest
	case '?':
		return part{kind: one}, rest
	case '[':
		if p, behind, closed := cutClass(rest); closed {
			return p, behind
		}
	case '\\':
		if rest != "" {
			return part{among, rest[:1]}, rest[1:]
		}
	}
	return part{among, pattern[:1]}, rest
}

// cutClass is the part of what stands behind a [ up to its ], and what is behind that; false: no ] is there.
func cutClass(rest string) (part, string, bool) {
	text, negated := strings.CutPrefix(rest, "^")
	if text == "" {
		return part{}, "", false
	}
	end := 1 + strings.IndexByte(text[1:], ']') // a ] as first byte is one of the bytes that are told
	if end == 0 {
		return part{}, "", false
	}
	p := part{among, text[:end]}
	if negated {
		p.kind = outside
	}
	return p, text[end+1:], true
}

// tells tells whether a text names a byte: by itself, or in a range of two bytes with a - between.
func tells(text string, c byte) bool {
	for text != "" {
		from, to, rest := text[0], text[0], text[1:]
		if len(text) > 2 && text[1] == '-' {
			to, rest = text[2], text[3:]
		}
		if from <= c && c <= to {
			return true
		}
		text = rest
	}
	return false
}

// takes tells whether a part that is one byte may be this one.
func (p part) takes(c byte) bool {
	switch p.kind {
	case among:
		return tells(p.text, c)
	case outside:
		return !tells(p.text, c)
	}
	return p.kind == one
}

// Match tells whether a pattern describes a text.
func Match(pattern, s string) bool {
	l := parts(pattern)
	next, at := 0, 0      // the part, and the byte, that are to be held against each other
	behind, tried := 0, 0 // the part behind the last of any bytes (0: there was none), and the byte from which it was tried
	for at < len(s) {
		switch {
		case next < len(l) && l[next].kind == many:
			next++
			behind, tried = next, at
		case next < len(l) && l[next].takes(s[at]):
			next++
			at++
		case behind > 0:
			tried++
			next, at = behind, tried
		default:
			return false
		}
	}
	for next < len(l) && l[next].kind == many {
		next++
	}
	return next == len(l)
}
