package unify

import (
	"slices"

	"cognate/api"
)

// task is two lists of types to be unified one by one, and two roots that are joined after that, if they are not the same.
type task struct {
	as, bs []api.Type
	x, y   int
}

// work unifies one pair. Its tasks wait in a list, since metas can nest types deeper than any type that was given.
type work struct {
	*Store
	tasks   []task // the last one comes first
	changes []change
}

// unify extends the unifier so that it makes a and b equal, or returns an error somewhere on the way.
func (w *work) unify(a, b api.Type) api.Errno {
	w.tasks = append(w.tasks, task{as: []api.Type{a}, bs: []api.Type{b}})
	for len(w.tasks) > 0 {
		last := len(w.tasks) - 1
		next := &w.tasks[last]
		if len(next.as) == 0 {
			w.join(w.root(next.x), w.root(next.y))
			w.tasks = w.tasks[:last]
			continue
		}
		a, b := next.as[0], next.bs[0]
		next.as, next.bs = next.as[1:], next.bs[1:]
		if !w.step() {
			return api.ErrLimit
		}
		if e := w.pair(a, b); e != api.OK {
			return e
		}
	}
	return api.OK
}

// pair does what makes a and b equal, or adds a task that does.
func (w *work) pair(a, b api.Type) api.Errno {
	switch {
	case a.Kind == api.TMeta && b.Kind == api.TMeta:
		return w.metaAndMeta(w.root(a.N), w.root(b.N))
	case a.Kind == api.TMeta:
		return w.metaAndType(w.root(a.N), b)
	case b.Kind == api.TMeta:
		return w.metaAndType(w.root(b.N), a)
	}
	return w.typeAndType(a, b)
}

// metaAndMeta unifies what the metas of two roots stand for.
func (w *work) metaAndMeta(x, y int) api.Errno {
	if x == y {
		return api.OK
	}
	mx, my := w.meta(x), w.meta(y)
	switch {
	case mx.bound && my.bound:
		// When the types are equal, the roots are joined, so that the same types are not gone through again.
		w.tasks = append(w.tasks, task{as: []api.Type{mx.t}, bs: []api.Type{my.t}, x: x, y: y})
		return api.OK
	case mx.bound && my.inside:
		if e := w.outside(y, mx.t); e != api.OK {
			return e
		}
	case my.bound && mx.inside:
		if e := w.outside(x, my.t); e != api.OK {
			return e
		}
	}
	w.join(x, y)
	return api.OK
}

// metaAndType unifies what the metas of a root stand for with t, which is no meta.
func (w *work) metaAndType(root int, t api.Type) api.Errno {
	if m := w.meta(root); m.bound {
		return w.typeAndType(m.t, t)
	}
	if e := w.outside(root, t); e != api.OK {
		return e
	}
	w.bind(root, t)
	return api.OK
}

// typeAndType unifies two types that are no metas.
func (w *work) typeAndType(a, b api.Type) api.Errno {
	switch {
	case a.Kind == api.TCon && b.Kind == api.TCon && a.Name == b.Name && len(a.Kids) == len(b.Kids):
		w.tasks = append(w.tasks, task{as: a.Kids, bs: b.Kids})
		return api.OK
	case same(a, b):
		return api.OK
	}
	return api.ErrMatch
}

// outside returns ErrMatch if one of the metas of a root is in t, which is no meta, or in what the metas in t stand for.
func (w *work) outside(root int, t api.Type) api.Errno {
	// A root that is in no type of another root can only be in t itself.
	deep := w.meta(root).inside
	seen := map[int]struct{}{}
	parts := [][]api.Type{t.Kids}
	for len(parts) > 0 {
		last := len(parts) - 1
		if len(parts[last]) == 0 {
			parts = parts[:last]
			continue
		}
		part := parts[last][0]
		parts[last] = parts[last][1:]
		if !w.step() {
			return api.ErrLimit
		}
		if part.Kind != api.TMeta {
			parts = append(parts, part.Kids)
			continue
		}
		inner := w.root(part.N)
		if inner == root {
			return api.ErrMatch
		}
		if _, known := seen[inner]; deep && !known {
			seen[inner] = struct{}{}
			parts = append(parts, w.meta(inner).t.Kids)
		}
	}
	return api.OK
}

// step counts a step, and reports whether there have not been too many of them.
func (w *work) step() bool {
	w.steps++
	return w.steps <= api.MaxSteps
}

// same reports whether two types are equal as they stand.
func same(a, b api.Type) bool {
	return a.Kind == b.Kind && a.Name == b.Name && a.N == b.N && slices.EqualFunc(a.Kids, b.Kids, same)
}
