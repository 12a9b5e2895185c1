package show

import (
	"cognate/api"
	"cognate/int63"
)

func (w *writer) typ(t api.Type) { w.below(func() { w.function(t) }) }

// function writes a type that may be one of functions.
func (w *writer) function(t api.Type) {
	if !isFunction(t) {
		w.btype(t)
		return
	}
	if isFunction(t.Kids[0]) {
		inBrackets(w, t.Kids[0], w.typ)
	} else {
		w.btype(t.Kids[0])
	}
	w.put(arrow)
	w.typ(t.Kids[1])
}

// btype writes a type that is not one of functions.
func (w *writer) btype(t api.Type) {
	w.put(t.Name)
	for _, kid := range t.Kids {
		w.atype(kid)
	}
}

func (w *writer) atype(t api.Type) {
	if len(t.Kids) > 0 {
		inBrackets(w, t, w.typ)
	} else {
		w.put(t.Name)
	}
}

func (w *writer) pat(p api.Pat) {
	w.below(func() {
		w.patAtom(p)
		for _, kid := range p.Kids {
			w.apat(kid)
		}
	})
}

func (w *writer) apat(p api.Pat) {
	if len(p.Kids) > 0 {
		inBrackets(w, p, w.pat)
	} else {
		w.patAtom(p)
	}
}

// patAtom writes a pattern without its Kids.
func (w *writer) patAtom(p api.Pat) {
	switch p.Kind {
	case api.PWild:
		w.put("_")
	case api.PInt:
		w.put(int63.Text(p.N))
	default:
		w.put(p.Name)
	}
}
