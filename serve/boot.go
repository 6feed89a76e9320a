package serve

import (
	"intaglio/api"
	"intaglio/box"
	"intaglio/cell"
	"intaglio/disk"
	"intaglio/sess"
	"intaglio/store"
	"intaglio/value"
	"intaglio/vault"
)

// Boot is a server of what is on a disk.
func Boot(d *disk.Disk, c *cell.Cell, b *box.Box, bounds api.Bounds, most, now int) (*Server, api.Errno) {
	v, found, e := vault.Boot(d, c, b, bounds)
	if e != api.OK {
		return nil, e
	}
	entries, sound := decodeEntries(found.Entries)
	groups, formed := decodeGroups(found.Recs)
	st, e := store.Load(min(max(most, 0), api.MaxMemory), entries)
	if !sound || !formed || e != api.OK {
		return nil, api.ETAMPER
	}
	for _, g := range groups {
		sess.Replay(st, g)
	}
	s := &Server{vault: v, store: st, box: b, bounds: bounds, now: max(within(now), lastTime(groups))}
	st.Sweep(s.now)
	if e := v.Begin(encodeEntries(st.Dump())); e != api.OK {
		return nil, e
	}
	return s, api.OK
}

// lastTime is the time of the last group, behind which time does not go back; 0, if there is none.
func lastTime(l []sess.Group) int {
	if len(l) == 0 {
		return 0
	}
	return l[len(l)-1].Now
}

// decodeEntries is entries of their bytes; false: some are none.
func decodeEntries(l [][]byte) ([]api.Entry, bool) {
	var out []api.Entry
	for _, b := range l {
		entry, e := value.Decode(b)
		if e != api.OK {
			return nil, false
		}
		out = append(out, entry)
	}
	return out, true
}

// decodeGroups is groups of their bytes; false: some are none.
func decodeGroups(l [][]byte) ([]sess.Group, bool) {
	var out []sess.Group
	for _, b := range l {
		g, ok := sess.Decode(b)
		if !ok {
			return nil, false
		}
		out = append(out, g)
	}
	return out, true
}

// encodeEntries is the bytes of a store's entries.
func encodeEntries(l []api.Entry) [][]byte {
	var out [][]byte
	for _, entry := range l {
		// What a store has are entries that may be: there is no error.
		b, _ := value.Encode(entry)
		out = append(out, b)
	}
	return out
}
