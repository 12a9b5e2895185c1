package show

import (
	"cognate/api"
)

func (w *writer) prog(p api.Prog) {
	lines(w, p.Datas, w.data)
	lines(w, p.Classes, w.class)
	lines(w, p.Insts, w.instance)
	lines(w, p.Binds, w.def)
}

// lines writes declarations, each with its semicolon on a line of its own.
func lines[T any](w *writer, l []T, write func(T)) {
	for _, x := range l {
		write(x)
		w.put(";")
		w.endLine()
	}
}

func (w *writer) data(d api.Data) {
	w.put("data", d.Name)
	w.put(d.Params...)
	w.put("=")
	separated(w, "|", d.Cons, w.con)
	if len(d.Deriv) > 0 {
		w.put("deriving", "(")
		separated(w, ",", d.Deriv, w.token)
		w.put(")")
	}
}

func (w *writer) con(c api.Con) {
	w.put(c.Name)
	for _, t := range c.Args {
		w.atype(t)
	}
}

func (w *writer) class(c api.Class) {
	w.put("class", c.Name, c.Var)
	from(w, c.Supers, w.token)
	w.put("where")
	for _, m := range c.Methods {
		w.name(m.Name)
		w.put(":")
		w.typ(m.T)
		w.put(";")
	}
	w.defs(c.Defaults)
	w.put("end")
}

func (w *writer) instance(i api.Inst) {
	w.put("instance", i.Class)
	w.atype(i.Head)
	from(w, i.Ctx, func(p api.Pred) { w.put(p.Class, p.T.Name) })
	w.put("where")
	w.defs(i.Binds)
	w.put("end")
}

// from writes what a class or an instance presupposes, if there is something.
func from[T any](w *writer, l []T, write func(T)) {
	if len(l) > 0 {
		w.put("from")
		separated(w, ",", l, write)
	}
}

// defs writes the binds within a class or an instance.
func (w *writer) defs(l []api.Bind) {
	for _, b := range l {
		w.def(b)
		w.put(";")
	}
}

func (w *writer) def(b api.Bind) {
	w.put("def")
	w.bind(b, w.outermost)
}
