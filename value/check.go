package value

import (
	"slices"

	"intaglio/api"
	"intaglio/pack"
	"intaglio/zset"
)

// isKind tells whether there are values of this kind.
func isKind(kind int) bool { return kind >= api.VString && kind <= api.VZset }

// own is plain data without what its kind does not have.
func own(v api.Val) api.Val {
	o := api.Val{Kind: v.Kind}
	switch v.Kind {
	case api.VString:
		o.Text = v.Text
	case api.VHash:
		o.Pairs = v.Pairs
	case api.VList, api.VSet:
		o.List = v.List
	case api.VZset:
		o.Scores = v.Scores
	}
	return o
}

// count is how many elements a value has; a string has none.
func count(v api.Val) int {
	o := own(v)
	return len(o.Pairs) + len(o.List) + len(o.Scores)
}

// each tells of each element its texts, and the bytes of its score, if it has one; of a string its text.
func each(v api.Val, tell func(score []byte, texts ...string)) {
	o := own(v)
	if o.Kind == api.VString {
		tell(nil, o.Text)
	}
	for _, p := range o.Pairs {
		tell(nil, p.Field, p.Text)
	}
	for _, text := range o.List {
		tell(nil, text)
	}
	for _, s := range o.Scores {
		tell(pack.Put64(nil, uint64(s.Score)), s.Member)
	}
}

// tooLong tells whether a value has a text of more bytes than it may have.
func tooLong(v api.Val) bool {
	long := false
	each(v, func(_ []byte, texts ...string) {
		for _, text := range texts {
			long = long || len(text) > api.MaxText
		}
	})
	return long
}

// rises tells whether each stands ahead of the next one.
func rises[E any](l []E, ahead func(a, b E) bool) bool {
	for i := 1; i < len(l); i++ {
		if !ahead(l[i-1], l[i]) {
			return false
		}
	}
	return true
}

// fill puts members with their scores into a set; whether none of them was there.
func fill(z *zset.Set, scores []api.Score) bool {
	fresh := true
	for _, s := range scores {
		fresh = z.Put(s.Member, s.Score) && fresh
	}
	return fresh
}

// inOrder tells whether elements stand in the one order that they may have.
func inOrder(v api.Val) bool {
	switch v.Kind {
	case api.VHash:
		return rises(v.Pairs, func(a, b api.Pair) bool { return a.Field < b.Field })
	case api.VSet:
		return rises(v.List, func(a, b string) bool { return a < b })
	case api.VZset:
		return rises(v.Scores, zset.Less) && fill(zset.New(), v.Scores)
	}
	return true
}

// Check tells whether plain data may be a value.
func Check(v api.Val) api.Errno {
	switch n := count(v); {
	case !isKind(v.Kind), !Same(v, own(v)), v.Kind != api.VString && n == 0:
		return api.EARG
	case n > api.MaxItems:
		return api.EFULL
	case tooLong(v):
		return api.ELONG
	case !inOrder(v):
		return api.EORDER
	}
	return api.OK
}

// Entry tells whether an entry may be.
func Entry(e api.Entry) api.Errno {
	if len(e.Key) < 1 || len(e.Key) > api.MaxKey || e.At < 0 || e.At > api.MaxNum {
		return api.EARG
	}
	return Check(e.Val)
}

// Size is how much memory a value takes.
func Size(v api.Val) int {
	size := 16 + 8*count(v)
	each(v, func(score []byte, texts ...string) {
		size += len(score)
		for _, text := range texts {
			size += len(text)
		}
	})
	return size
}

// Same tells whether two values are the same.
func Same(a, b api.Val) bool {
	return a.Kind == b.Kind && a.Text == b.Text && slices.Equal(a.Pairs, b.Pairs) &&
		slices.Equal(a.List, b.List) && slices.Equal(a.Scores, b.Scores)
}
