package space

// heap is things of which one that none goes ahead of is at hand.
type heap[E any] struct {
	list  []E // the one at i does not go ahead of the one at (i - 1) / 2
	ahead func(a, b E) bool
}

// len is how many things there are.
func (h *heap[E]) len() int { return len(h.list) }

// first is a thing that none goes ahead of; false: there are none.
func (h *heap[E]) first() (E, bool) {
	if len(h.list) == 0 {
		var none E
		return none, false
	}
	return h.list[0], true
}

// put puts a thing in.
func (h *heap[E]) put(e E) {
	h.list = append(h.list, e)
	h.rise(len(h.list) - 1)
}

// drop takes the first thing out, if there is one.
func (h *heap[E]) drop() {
	if len(h.list) == 0 {
		return
	}
	last := len(h.list) - 1
	h.swap(0, last)
	clear(h.list[last:]) // spare room would keep it
	h.list = h.list[:last]
	h.sink(0)
}

func (h *heap[E]) swap(i, j int) { h.list[i], h.list[j] = h.list[j], h.list[i] }

// rise brings a thing forward, as far as it goes ahead of those there.
func (h *heap[E]) rise(i int) {
	for i > 0 {
		up := (i - 1) / 2
		if !h.ahead(h.list[i], h.list[up]) {
			return
		}
		h.swap(i, up)
		i = up
	}
}

// sink brings a thing back, as far as others there go ahead of it.
func (h *heap[E]) sink(i int) {
	for {
		best := i
		for down := 2*i + 1; down <= 2*i+2 && down < len(h.list); down++ {
			if h.ahead(h.list[down], h.list[best]) {
				best = down
			}
		}
		if best == i {
			return
		}
		h.swap(i, best)
		i = best
	}
}
