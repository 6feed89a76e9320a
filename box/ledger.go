package box

import (
	"intaglio/aead"
	"intaglio/api"
	"intaglio/pack"
)

// entry is what a ledger may hold: it tells how many bytes stand for it.
type entry interface{ size() int }

// ledger is entries in the order in which they came. The bytes that stand for one tell nothing of it but its place and its length.
type ledger[E entry] struct{ entries []E }

// token is the bytes that stand for the entry of a number.
func token(number, size int) []byte {
	out := make([]byte, size)
	copy(out, pack.PutNum(nil, number))
	return out
}

// add takes an entry in, and tells the bytes that stand for it.
func (l *ledger[E]) add(e E) []byte {
	l.entries = append(l.entries, e)
	return token(len(l.entries)-1, e.size())
}

// find is the entry for which bytes stand; false: there is none.
func (l *ledger[E]) find(told []byte) (E, bool) {
	var none E
	r := pack.Read(told)
	number := r.Num(len(l.entries) - 1)
	if r.Err() != api.OK {
		return none, false
	}
	e := l.entries[number]
	if !aead.Same(told, token(number, e.size())) {
		return none, false
	}
	return e, true
}

// sealedText is what was sealed: with what, what beside, and the text.
type sealedText struct {
	use      use
	ad, text string
}

func (s sealedText) size() int { return len(s.text) + api.Tag }

// markedText is what was marked.
type markedText struct {
	id   api.KeyID
	text string
}

func (m markedText) size() int { return api.Sum }

// ledgers is an ideal box: all that was sealed, and all that was marked.
type ledgers struct {
	texts ledger[sealedText]
	marks ledger[markedText]
}

func (l *ledgers) seal(u use, ad, text []byte) []byte {
	return l.texts.add(sealedText{u, string(ad), string(text)})
}

func (l *ledgers) open(u use, ad, sealed []byte) ([]byte, api.Errno) {
	s, ok := l.texts.find(sealed)
	if !ok || s.use != u || s.ad != string(ad) {
		return nil, api.EAUTH
	}
	return []byte(s.text), api.OK
}

func (l *ledgers) mark(id api.KeyID, text []byte) []byte {
	return l.marks.add(markedText{id, string(text)})
}

func (l *ledgers) check(id api.KeyID, text, mark []byte) bool {
	m, ok := l.marks.find(mark)
	return ok && m == markedText{id, string(text)}
}
