package play

import (
	"intaglio/api"
	"intaglio/serve"
)

// boot lets a server be up.
func (w *World) boot() api.Errno {
	if w.server != nil {
		return api.ETHERE
	}
	s, e := serve.Boot(w.disk, w.cell, w.box, w.bounds, w.most, w.now)
	if e != api.OK {
		return e
	}
	w.server, w.ran = s, nil
	return api.OK
}

// retire leaves no server; what the one that was there did, heard and told stays.
func (w *World) retire() {
	if w.server == nil {
		return
	}
	w.ran = w.server.Ran()
	w.talks = append(w.talks, w.server.Talks()...)
	w.server = nil
}

// crash takes the power away, and what is not kept; it comes again.
func (w *World) crash(cuts []int) api.Errno {
	w.disk.Crash(cuts)
	w.retire()
	return api.OK
}

// fuse lets so many acts go on.
func (w *World) fuse(n int) api.Errno {
	w.power.Fuse(n)
	return api.OK
}

// tick lets time go on.
func (w *World) tick(n int) api.Errno {
	w.now += min(max(n, 0), api.MaxNum-w.now)
	w.server.Tick(n)
	return api.OK
}

// sync lets all that was done last.
func (w *World) sync() api.Errno {
	if w.server == nil {
		return api.ESTATE
	}
	outs, e := w.server.Sync()
	w.sendAll(outs)
	return e
}

// rewrite does so by a new generation of files.
func (w *World) rewrite(turn bool) api.Errno {
	if w.server == nil {
		return api.ESTATE
	}
	outs, e := w.server.Rewrite(turn)
	w.sendAll(outs)
	return e
}

// sendAll sends what the server tells.
func (w *World) sendAll(outs []serve.Out) {
	for _, o := range outs {
		w.send(fromServer(o.Way), o.Frame)
	}
}
