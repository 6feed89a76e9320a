package vault

import (
	"math"
	"strconv"

	"intaglio/api"
	"intaglio/box"
	"intaglio/pack"
)

// The file that says which generation is taken, what it is called ahead of that, and the text that is sealed in it.
const (
	headName  = "head"
	freshName = "head.new"
	headText  = "head"
)

// What a log's records are, by their first byte.
const (
	isCommand = iota + 1
	isBind
)

// Names is the names of a generation's files.
func Names(life, gen int) (snap, log string) {
	which := "." + strconv.Itoa(life) + "." + strconv.Itoa(gen)
	return "snap" + which, "log" + which
}

// labelled is the id that a generation has for what a label is for; the generation is told by the id of its head.
func labelled(head api.KeyID, label int) api.KeyID {
	head.Label = label
	return head
}

// headFile is a head's file.
func headFile(head api.KeyID, sealed []byte) []byte {
	file := pack.PutNum(nil, head.Epoch)
	file = pack.PutNum(file, head.Life)
	file = pack.PutNum(file, head.Num)
	return pack.Put(file, sealed)
}

// readHead is the id of the head that a file is; false: it is none.
func readHead(b *box.Box, file []byte) (api.KeyID, bool) {
	r := pack.Read(file)
	head := api.KeyID{Label: api.KHead, Epoch: r.Num(api.MaxNum), Life: r.Num(api.MaxNum), Num: r.Num(api.MaxNum)}
	text, e := b.Open(head, 0, nil, r.Bytes(math.MaxInt))
	if e != api.OK || r.End() != api.OK || string(text) != headText {
		return api.KeyID{}, false
	}
	return head, true
}

// command is a command as a record.
func command(rec []byte) []byte { return pack.Join([]byte{isCommand}, rec) }

// bind is a pin as a record.
func bind(p api.Pin) []byte { return pack.PutNum(pack.PutNum([]byte{isBind}, p.Life), p.Num) }

// readLog is the commands ahead of the last bind of a log, and the pin of that; false: there is no bind, or a record has another form.
func readLog(recs [][]byte) (commands [][]byte, last api.Pin, ok bool) {
	bound := 0
	for _, rec := range recs {
		r := pack.Read(rec)
		switch r.U8() {
		case isCommand:
			commands = append(commands, r.Rest())
		case isBind:
			last = api.Pin{Life: r.Num(math.MaxInt), Num: r.Num(math.MaxInt)}
			bound, ok = len(commands), true
		default:
			return nil, api.Pin{}, false
		}
		if r.End() != api.OK {
			return nil, api.Pin{}, false
		}
	}
	return commands[:bound], last, ok
}
