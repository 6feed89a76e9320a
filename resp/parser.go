package resp

import (
	"bytes"

	"intaglio/api"
)

// Parser reads commands, piece by piece.
type Parser struct {
	made  bool // new(Parser) must tell ENIL, a parser of no bytes must not
	left  []byte
	fault api.Errno
}

// New is a parser of nothing yet.
func New() *Parser { return &Parser{made: true} }

// Left is how many bytes are left behind the last whole command.
func (p *Parser) Left() int {
	if p == nil {
		return 0
	}
	return len(p.left)
}

// Feed takes bytes, and tells the commands that are whole by them.
func (p *Parser) Feed(b []byte) ([][]string, api.Errno) {
	if p == nil || !p.made {
		return nil, api.ENIL
	}
	if p.fault != api.OK {
		return nil, p.fault
	}
	p.left = append(p.left, b...)
	l, n, e := commands(p.left)
	if e != api.OK {
		p.left, p.fault = nil, e
		return l, e
	}
	if n > 0 { // what was read must not be kept beside what is left
		p.left = bytes.Clone(p.left[n:])
	}
	return l, api.OK
}

// commands is the whole commands with which bytes begin, how many bytes these have, and what is wrong behind them.
func commands(b []byte) (l [][]string, n int, e api.Errno) {
	d := &decoder{b}
	e = attempt(func() {
		for {
			words := d.command()
			n = len(b) - len(d.left)
			if len(words) > 0 {
				l = append(l, texts(words))
			}
		}
	})
	if e == api.ESHORT { // more may come
		e = api.OK
	}
	return l, n, e
}

// texts is words as texts.
func texts(words [][]byte) []string {
	var l []string
	for _, word := range words {
		l = append(l, string(word))
	}
	return l
}
