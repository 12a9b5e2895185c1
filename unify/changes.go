package unify

import (
	"slices"

	"cognate/api"
)

// change is what a meta was before it was changed, and whether the store had it then.
type change struct {
	n   int
	old meta
	had bool
}

// set lets the meta n be m, and records what it was.
func (w *work) set(n int, m meta) {
	old, had := w.metas[n]
	w.changes = append(w.changes, change{n: n, old: old, had: had})
	w.metas[n] = m
}

// undo takes back all changes, the last one first.
func (w *work) undo() {
	changes := w.changes
	// Whatever is recorded from here on goes into new memory, not over what is being taken back.
	w.changes = changes[:0:0]
	for _, c := range slices.Backward(changes) {
		if c.had {
			w.metas[c.n] = c.old
		} else {
			delete(w.metas, c.n)
		}
	}
}

// join lets the metas of two roots stand for one another. If both roots have types, these must have become equal.
func (w *work) join(x, y int) {
	if x == y {
		return
	}
	top, low := w.meta(x), w.meta(y)
	// The fewer metas are put below the more, so that the way to the root is short.
	if top.size < low.size {
		x, y, top, low = y, x, low, top
	}
	if !top.bound {
		top.bound, top.t = low.bound, low.t
	}
	top.size += low.size
	top.least = min(top.least, low.least)
	top.inside = top.inside || low.inside
	w.set(x, top)
	w.set(y, meta{up: x})
}

// bind lets the metas of a root stand for t, in which none of them is.
func (w *work) bind(root int, t api.Type) {
	t = w.own(t)
	m := w.meta(root)
	m.bound, m.t = true, t
	w.set(root, m)
}

// own returns a copy of t, since a caller may change a type of his own later; all metas in t are inside from now on.
func (w *work) own(t api.Type) api.Type {
	if t.Kind == api.TMeta {
		w.putInside(w.root(t.N))
		return metaType(t.N)
	}
	t.Kids = slices.Clone(t.Kids)
	for i, kid := range t.Kids {
		t.Kids[i] = w.own(kid)
	}
	return t
}

// putInside notes that one of the metas of a root occurs in the type of another root.
func (w *work) putInside(root int) {
	if m := w.meta(root); !m.inside {
		m.inside = true
		w.set(root, m)
	}
}
