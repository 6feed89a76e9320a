package vault

import (
	"intaglio/api"
	"intaglio/box"
	"intaglio/cell"
	"intaglio/chain"
	"intaglio/disk"
	"intaglio/snap"
)

// Found is what Boot found: a snapshot's entries, and the commands behind it.
type Found struct {
	Entries, Recs [][]byte
}

// must reads a file that no crash takes away.
func must(d *disk.Disk, name string) ([]byte, api.Errno) {
	file, e := d.Read(name)
	if e == api.ENONE {
		e = api.ETAMPER
	}
	return file, e
}

// look is the id of the head that is taken, zero if none is, and what its generation has.
func look(d *disk.Disk, b *box.Box, pin api.Pin) (api.KeyID, Found, api.Errno) {
	file, e := must(d, headName)
	if e == api.ETAMPER && pin == (api.Pin{}) {
		// The head is not there, and no pin was raised: no generation was ever taken for good.
		return api.KeyID{}, Found{}, api.OK
	}
	if e != api.OK {
		return api.KeyID{}, Found{}, e
	}
	head, ok := readHead(b, file)
	if !ok {
		return api.KeyID{}, Found{}, api.ETAMPER
	}
	found, e := open(d, b, head, pin)
	return head, found, e
}

// open is what a generation has; the pin of its last bind must not be less than this one.
func open(d *disk.Disk, b *box.Box, head api.KeyID, pin api.Pin) (Found, api.Errno) {
	var snapshot, log []byte
	snapName, logName := Names(head.Life, head.Num)
	e := inOrder(
		func() (e api.Errno) { snapshot, e = must(d, snapName); return e },
		func() (e api.Errno) { log, e = must(d, logName); return e },
	)
	if e != api.OK {
		return Found{}, e
	}
	_, entries, e := snap.Read(b, labelled(head, api.KSnap), snapshot)
	recs, _ := chain.Replay(b, labelled(head, api.KLog), log)
	commands, last, ok := readLog(recs)
	if e != api.OK || !ok || cell.Less(last, pin) {
		return Found{}, api.ETAMPER
	}
	return Found{entries, commands}, api.OK
}
