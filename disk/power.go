package disk

import "intaglio/api"

// noFuse is the fuse of a plug at which all acts go on.
const noFuse = -1

// plug is what a power shares with all that hangs on it. One that is nil, of a power that Plug did not make, is off and stays so.
type plug struct {
	on   bool
	fuse int // how many acts go on before power goes off; below 0: all
}

// live tells whether power is on.
func (p *plug) live() bool { return p != nil && p.on }

// burn lets so many acts go on; below 0: all.
func (p *plug) burn(n int) {
	if p != nil {
		p.fuse = n
	}
}

// act is an act.
func (p *plug) act() api.Errno {
	if !p.live() {
		return api.EDOWN
	}
	if p.fuse == 0 {
		p.on = false
		return api.EDOWN
	}
	if p.fuse > 0 {
		p.fuse--
	}
	return api.OK
}

// mend puts power on, without a fuse.
func (p *plug) mend() {
	if p != nil {
		*p = plug{on: true, fuse: noFuse}
	}
}

// Power is whether a device runs.
type Power struct{ plug *plug }

// Plug is a power that is on.
func Plug() *Power {
	p := &plug{}
	p.mend()
	return &Power{p}
}

// shared is a power's plug; nil, if Plug did not make the power.
func (p *Power) shared() *plug {
	if p == nil {
		return nil
	}
	return p.plug
}

// On tells whether it is on.
func (p *Power) On() bool { return p.shared().live() }

// Fuse lets so many acts go on; below 0: all.
func (p *Power) Fuse(n int) { p.shared().burn(n) }

// Act is an act.
func (p *Power) Act() api.Errno { return p.shared().act() }

// Mend puts it on, without a fuse.
func (p *Power) Mend() { p.shared().mend() }
