package value

import (
	"bytes"

	"intaglio/api"
	"intaglio/pack"
)

// Encode is an entry as bytes.
func Encode(e api.Entry) ([]byte, api.Errno) {
	if x := Entry(e); x != api.OK {
		return nil, x
	}
	var parts [][]byte
	put := func(l ...[]byte) { parts = append(parts, l...) }
	putText := func(text string) { put(pack.Put(nil, []byte(text))) }
	putText(e.Key)
	put(pack.PutNum(nil, e.At), []byte{byte(e.Val.Kind)})
	if e.Val.Kind != api.VString {
		put(pack.PutNum(nil, count(e.Val)))
	}
	each(e.Val, func(score []byte, texts ...string) {
		for _, text := range texts {
			putText(text)
		}
		put(score)
	})
	return pack.Join(parts...), api.OK
}

// Decode is the entry of bytes.
func Decode(b []byte) (api.Entry, api.Errno) {
	var e api.Entry
	r := pack.Read(b)
	e.Key = string(r.Bytes(api.MaxKey))
	e.At = r.Num(api.MaxNum)
	e.Val = readVal(r)
	// Whatever is wrong with the bytes: the entry that was read of them has other ones then, or may not be.
	again, x := Encode(e)
	if x != api.OK || !bytes.Equal(again, b) {
		return api.Entry{}, api.EFORM
	}
	return e, api.OK
}

// readVal is the value that stands next, as far as one does.
func readVal(r *pack.Reader) api.Val {
	v := api.Val{Kind: r.U8()}
	text := func() string { return string(r.Bytes(api.MaxText)) }
	if v.Kind == api.VString {
		v.Text = text()
		return v
	}
	for range r.Num(api.MaxItems) {
		first := text()
		switch v.Kind {
		case api.VHash:
			v.Pairs = append(v.Pairs, api.Pair{Field: first, Text: text()})
		case api.VList, api.VSet:
			v.List = append(v.List, first)
		case api.VZset:
			v.Scores = append(v.Scores, api.Score{Member: first, Score: int(r.U64())})
		}
	}
	return v
}
