package unify

import (
	"slices"

	"cognate/api"
)

// filler replaces metas by what they stand for.
type filler struct {
	*Store
	done map[int]filled // what the metas of a root stand for
	room int            // how many parts the type at hand may still have
}

// filled is a type in which nothing is left to be replaced, and how many parts it has.
type filled struct {
	t    api.Type
	size int
}

func newFiller(s *Store) *filler { return &filler{Store: s, done: map[int]filled{}} }

// whole returns t with all metas replaced, or false if that has more than MaxType parts.
func (f *filler) whole(t api.Type) (api.Type, bool) {
	f.room = api.MaxType
	return f.fill(t)
}

// fill returns t with all metas replaced, or false if there is no room for that.
func (f *filler) fill(t api.Type) (api.Type, bool) {
	if t.Kind == api.TMeta {
		return f.fillMeta(f.root(t.N))
	}
	// The Kids need room as well. They are not gone through if they cannot have it.
	if !f.take(1) || f.room < len(t.Kids) {
		return api.Type{}, false
	}
	t.Kids = slices.Clone(t.Kids)
	for i, kid := range t.Kids {
		full, ok := f.fill(kid)
		if !ok {
			return api.Type{}, false
		}
		t.Kids[i] = full
	}
	return t, true
}

// fillMeta returns what the metas of a root stand for, or false if there is no room for that.
func (f *filler) fillMeta(root int) (api.Type, bool) {
	m := f.meta(root)
	if !m.bound {
		return metaType(m.least), f.take(1)
	}
	if earlier, ok := f.done[root]; ok {
		return earlier.t, f.take(earlier.size)
	}
	room := f.room
	t, ok := f.fill(m.t)
	if ok {
		f.done[root] = filled{t: t, size: room - f.room}
	}
	return t, ok
}

// take takes room for some parts, and reports whether it was there.
func (f *filler) take(parts int) bool {
	f.room -= parts
	return f.room >= 0
}
