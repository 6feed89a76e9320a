package play

import "intaglio/api"

// keep remembers the files.
func (w *World) keep() api.Errno {
	w.images = append(w.images, w.disk.Image())
	return api.OK
}

// put lets files be what was remembered of them: all, or one alone.
func (w *World) put(x api.Step) api.Errno {
	if len(w.images) == 0 {
		return api.ENONE
	}
	files := w.images[modulo(x.N, len(w.images))]
	if !odd(x.K) {
		return w.disk.Load(files)
	}
	if len(files) == 0 {
		return api.ENONE
	}
	f := files[modulo(x.M, len(files))]
	return w.disk.Edit(f.Name, f.Data)
}

// edit puts bytes into a file, or cuts it.
func (w *World) edit(x api.Step) api.Errno {
	files := w.disk.Image()
	if len(files) == 0 {
		return api.ENONE
	}
	f := files[modulo(x.M, len(files))]
	if odd(x.N) {
		return w.disk.Edit(f.Name, f.Data[:modulo(x.N, len(f.Data)+1)])
	}
	return w.disk.Edit(f.Name, x.Text)
}
