package value

import (
	"maps"
	"slices"
)

// table is what stands by texts, each of them once.
type table[V any] struct{ rows map[string]V }

func newTable[V any]() table[V] { return table[V]{map[string]V{}} }

func (t table[V]) len() int { return len(t.rows) }

// get is what stands by a text; false: nothing.
func (t table[V]) get(text string) (V, bool) {
	row, there := t.rows[text]
	return row, there
}

// put puts a row by a text; whether nothing was there.
func (t table[V]) put(text string, row V) bool {
	_, there := t.rows[text]
	t.rows[text] = row
	return !there
}

// cut takes a text out; whether it was there.
func (t table[V]) cut(text string) bool {
	_, there := t.rows[text]
	delete(t.rows, text)
	return there
}

// texts is all texts, rising.
func (t table[V]) texts() []string {
	var l []string
	for text := range t.rows {
		l = append(l, text)
	}
	slices.Sort(l)
	return l
}

func (t table[V]) clone() table[V] { return table[V]{maps.Clone(t.rows)} }
