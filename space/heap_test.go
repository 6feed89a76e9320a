package space

import (
	"math"
	"math/rand"
	"slices"
	"strconv"
	"testing"

	"intaglio/value"
)

// drained is all that a heap has, in the order in which it tells it.
func drained[E any](h *heap[E]) []E {
	var out []E
	for e, more := h.first(); more; e, more = h.first() {
		out = append(out, e)
		h.drop()
	}
	return out
}

// Ways: a heap is generic, and its function alone tells which goes first.
func TestHeapByFunction(t *testing.T) {
	rnd := rand.New(rand.NewSource(16))
	for n := range 70 {
		rising := heap[int]{ahead: func(a, b int) bool { return a < b }}
		longer := heap[string]{ahead: func(a, b string) bool { return len(a) > len(b) }}
		var want []int
		for range n {
			i := rnd.Intn(40)
			want = append(want, i)
			rising.put(i)
			longer.put(strconv.Itoa(i * i * i * i))
		}
		slices.Sort(want)
		if rising.len() != n || longer.len() != n {
			t.Fatalf("%d and %d, want %d", rising.len(), longer.len(), n)
		}
		if got := drained(&rising); !slices.Equal(got, want) {
			t.Fatalf("%d: %v, want %v", n, got, want)
		}
		got := drained(&longer)
		if !slices.IsSortedFunc(got, func(a, b string) int { return len(b) - len(a) }) || len(got) != n {
			t.Fatalf("%d: %v", n, got)
		}
	}
}

// Ways: things are put in and taken out in any turn.
func TestHeapMixed(t *testing.T) {
	rnd := rand.New(rand.NewSource(17))
	h := heap[int]{ahead: func(a, b int) bool { return a < b }}
	var plain []int
	for range 20000 {
		if rnd.Intn(2+len(plain)/300) == 0 {
			i := rnd.Intn(1000)
			h.put(i)
			at, _ := slices.BinarySearch(plain, i)
			plain = slices.Insert(plain, at, i)
		} else {
			h.drop()
			plain = plain[min(1, len(plain)):]
		}
		got, there := h.first()
		if there != (len(plain) > 0) || there && got != plain[0] || !there && got != 0 || h.len() != len(plain) {
			t.Fatalf("%d of %d, %v, want %v", got, h.len(), there, plain)
		}
	}
}

// Ways, rule 8 of the language: a heap without things has none, and keeps none that it had.
func TestHeapNone(t *testing.T) {
	h := heap[string]{ahead: func(a, b string) bool { return a < b }}
	h.drop()
	if e, there := h.first(); e != "" || there || h.len() != 0 {
		t.Errorf("%q, %v", e, there)
	}
	h.put("b")
	h.put("a")
	h.drop()
	h.drop()
	if l := h.list[:2]; l[0] != "" || l[1] != "" {
		t.Errorf("kept: %q", l)
	}
}

// size is how many things a space's heap has.
func size(t *testing.T, what string, s *Space, most int) {
	t.Helper()
	if n := s.goes.len(); n > most {
		t.Fatalf("%s: %d in the heap, at most %d of use", what, n, most)
	}
}

// P16.2: what is stale is thrown away: a heap grows no further than its space.
func TestHeapSmall(t *testing.T) {
	const keys = 50
	v := value.New(1)
	calls := map[string]func(s *Space, i int){
		"expire":        func(s *Space, i int) { s.Expire(strconv.Itoa(i%keys), 1+i) },
		"expire late":   func(s *Space, i int) { s.Expire(strconv.Itoa(i%keys), math.MaxInt-i) },
		"set":           func(s *Space, i int) { s.Set(strconv.Itoa(i%keys), v, 1+i) },
		"set one":       func(s *Space, i int) { s.Set("one", v, 1+i) },
		"set and drop":  func(s *Space, i int) { s.Set("x"+strconv.Itoa(i), v, 1+i); s.Drop("x" + strconv.Itoa(i)) },
		"go and stay":   func(s *Space, i int) { s.Expire(strconv.Itoa(i%keys), i%2*i) },
		"set and sweep": func(s *Space, i int) { s.Set("x"+strconv.Itoa(i), v, 1+i); s.Sweep(1 + i) },
	}
	for what, call := range calls {
		s := New()
		for i := range keys {
			s.Set(strconv.Itoa(i), v, 0)
		}
		for i := range 5000 {
			call(s, i)
			size(t, what, s, 2*s.Len())
		}
		for _, key := range s.Keys() {
			s.Drop(key)
			size(t, what+", dropped", s, 2*s.Len())
		}
		size(t, what+", none left", s, 0)
	}
}

// P16.3: a clone has nothing stale; a key that is to stay is in no heap.
func TestHeapClone(t *testing.T) {
	s := New()
	for i := range 20 {
		s.Set(strconv.Itoa(i), value.New(1), i%2)
	}
	for i := range 20 {
		s.Expire(strconv.Itoa(i), 2*(i%2))
	}
	if n := s.Clone().goes.len(); n != 10 || s.goes.len() <= n {
		t.Errorf("%d, and %d ahead", n, s.goes.len())
	}
}
