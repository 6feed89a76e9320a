package vault

import (
	"slices"

	"intaglio/api"
	"intaglio/chain"
	"intaglio/snap"
)

// spent tells whether a new generation would be above a bound.
func (v *Vault) spent(head api.KeyID, pin api.Pin, entries [][]byte) bool {
	texts := len(snap.Chunks(entries)) + 1
	return head.Num > v.bounds.Gen || head.Epoch > v.bounds.Epoch || pin.Num > v.bounds.Pin || texts > v.bounds.Nonce
}

// renew makes a new generation of an epoch.
func (v *Vault) renew(epoch int, entries [][]byte) api.Errno {
	head := api.KeyID{Label: api.KHead, Epoch: epoch, Life: v.pin.Life, Num: v.gen + 1}
	pin := v.nextPin()
	if v.spent(head, pin, entries) {
		return api.ESPENT
	}
	snapshot, e := snap.Write(v.box, labelled(head, api.KSnap), nil, entries)
	if e != api.OK {
		return e
	}
	var log *chain.Log
	snapName, logName := Names(head.Life, head.Num)
	e = v.attempt(
		func() api.Errno { return v.remove(v.strangers()...) },
		func() api.Errno { return v.lay(snapName, snapshot) },
		func() (e api.Errno) { log, e = v.layLog(head, logName, pin); return e },
		func() api.Errno { return v.layHead(head) },
		// Behind the head: a pin that its log does not have would be taken for tampering.
		func() api.Errno { return v.cell.Raise(pin) },
		func() api.Errno { return v.remove(v.files()...) },
	)
	if e == api.OK {
		v.far, v.taken, v.gen, v.pin, v.log, v.pending = begun, head, head.Num, pin, log, 0
	}
	return e
}

// files is the names of the snapshot and the log that are taken by now; none, if nothing is.
func (v *Vault) files() []string {
	if v.taken == (api.KeyID{}) {
		return nil
	}
	snapName, logName := Names(v.taken.Life, v.taken.Num)
	return []string{snapName, logName}
}

// strangers is the names of all files but the head, and those that are taken by now; rising.
func (v *Vault) strangers() []string {
	known := append(v.files(), headName)
	return slices.DeleteFunc(v.disk.Names(), func(name string) bool { return slices.Contains(known, name) })
}

// remove takes files away, as far as they are there.
func (v *Vault) remove(names ...string) api.Errno {
	var steps []step
	for _, name := range names {
		steps = append(steps, func() api.Errno {
			e := v.disk.Remove(name)
			if e == api.ENONE {
				e = api.OK
			}
			return e
		})
	}
	return inOrder(steps...)
}

// lay makes a file of bytes, that lasts.
func (v *Vault) lay(name string, b []byte) api.Errno {
	return inOrder(
		func() api.Errno { return v.disk.Create(name) },
		func() api.Errno { return v.disk.Append(name, b) },
		func() api.Errno { return v.disk.Sync(name) },
	)
}

// layLog makes a generation's log, that begins with the bind of a pin, and lasts.
func (v *Vault) layLog(head api.KeyID, name string, pin api.Pin) (log *chain.Log, e api.Errno) {
	e = inOrder(
		func() (e api.Errno) {
			log, e = chain.Create(v.disk, v.box, labelled(head, api.KLog), name, v.bounds.Nonce)
			return e
		},
		func() api.Errno { return log.Add(bind(pin)) },
		func() api.Errno { return log.Sync() },
	)
	return log, e
}

// layHead makes a generation the one that is taken.
func (v *Vault) layHead(head api.KeyID) api.Errno {
	sealed, e := v.box.Seal(head, 0, nil, []byte(headText))
	if e != api.OK {
		return e
	}
	return inOrder(
		func() api.Errno { return v.lay(freshName, headFile(head, sealed)) },
		func() api.Errno { return v.disk.Rename(freshName, headName) },
	)
}
