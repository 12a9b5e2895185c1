package show

import (
	"cognate/api"
	"cognate/fix"
	"cognate/int63"
	"cognate/lex"
)

// form is how an operand is written.
type form int

const (
	bare form = iota
	bracketed
	// applied is an infix application that is written as the application of ( op ) to two arguments.
	applied
)

// place is where an operand stands: beside which operator, on which of its sides, and whether the surrounding exp ends with it.
type place struct {
	op          string
	right, last bool
}

// usual chooses brackets exactly where the operand could not be read without them.
func usual(e api.Exp, at place) form {
	op, _, _ := infix(e)
	if op != "" && fix.Needs(at.op, op, at.right) || isOpen(e) && !at.last {
		return bracketed
	}
	return bare
}

// shallow chooses as usual does, but no brackets around an infix application: what it contains is then one level higher.
func shallow(e api.Exp, at place) form {
	chosen := usual(e, at)
	if chosen == bracketed && e.Kind == api.EApp {
		return applied
	}
	return chosen
}

// infix returns the operator that an expression is written with, and its operands; without one, the empty string.
func infix(e api.Exp) (op string, a, b api.Exp) {
	switch e.Kind {
	case api.EAnd:
		return and, e.Kids[0], e.Kids[1]
	case api.EOr:
		return or, e.Kids[0], e.Kids[1]
	case api.EApp:
		if f := e.Kids[0]; f.Kind == api.EApp && isOperator(f.Kids[0]) {
			return f.Kids[0].Name, f.Kids[1], e.Kids[1]
		}
	}
	return "", api.Exp{}, api.Exp{}
}

// isOperator reports whether the application of e to two arguments can be written with e between them: between operands && and || are no variables.
func isOperator(e api.Exp) bool {
	return e.Kind == api.EVar && lex.IsOp(e.Name) && e.Name != and && e.Name != or
}

// isOpen reports whether e extends to the end of the exp in which it stands.
func isOpen(e api.Exp) bool {
	return e.Kind == api.ELam || e.Kind == api.ELet || e.Kind == api.EIf
}

func isAtom(e api.Exp) bool {
	switch e.Kind {
	case api.EInt, api.EStr, api.EVar, api.ECon, api.ECase, api.EAnn:
		return true
	}
	return false
}

// outermost writes an expression that stands in no other one: if it gets too deep as usual, once more with fewer levels.
func (w *writer) outermost(e api.Exp) {
	start := len(w.text)
	w.deepest, w.choose = 0, usual
	w.exp(e)
	if w.deepest > api.MaxDeep {
		w.text, w.choose = w.text[:start], shallow
		w.exp(e)
	}
}

func (w *writer) exp(e api.Exp) { w.below(func() { w.bare(e, true) }) }

// bare writes an expression without brackets around it; last tells whether the surrounding exp ends with it.
func (w *writer) bare(e api.Exp, last bool) {
	if op, a, b := infix(e); op != "" {
		w.operand(a, place{op: op})
		w.put(op)
		w.operand(b, place{op: op, right: true, last: last})
		return
	}
	switch e.Kind {
	case api.EApp:
		w.application(e)
	case api.ELam:
		w.put("\\", e.Name, arrow)
		w.exp(e.Kids[0])
	case api.ELet:
		w.let(e)
	case api.EIf:
		for i, sign := range [...]string{"if", "then", "else"} {
			w.put(sign)
			w.exp(e.Kids[i])
		}
	default:
		w.atom(e)
	}
}

func (w *writer) operand(e api.Exp, at place) {
	switch w.choose(e, at) {
	case bare:
		w.bare(e, at.last)
	case bracketed:
		inBrackets(w, e, w.exp)
	case applied:
		w.application(e)
	}
}

// application writes an EApp as a function and its argument, even if it could be written as infix.
func (w *writer) application(e api.Exp) {
	if f := e.Kids[0]; f.Kind == api.EApp {
		w.application(f)
	} else {
		w.argument(f)
	}
	w.argument(e.Kids[1])
}

// argument writes a part of an application.
func (w *writer) argument(e api.Exp) {
	if isAtom(e) {
		w.atom(e)
	} else {
		inBrackets(w, e, w.exp)
	}
}

func (w *writer) atom(e api.Exp) {
	switch e.Kind {
	case api.EInt:
		w.put(int63.Text(e.N))
	case api.EStr:
		w.put(lex.Quote(e.Name))
	case api.EVar:
		w.name(e.Name)
	case api.ECon:
		w.put(e.Name)
	case api.ECase:
		w.put("case")
		w.exp(e.Kids[0])
		w.put("of")
		separated(w, "|", e.Alts, w.alt)
		w.put("end")
	case api.EAnn:
		w.put("(")
		w.exp(e.Kids[0])
		w.put(":")
		w.typ(e.T)
		w.put(")")
	}
}

func (w *writer) alt(a api.Alt) {
	w.pat(a.P)
	w.put(arrow)
	w.exp(a.E)
}

func (w *writer) let(e api.Exp) {
	w.put("let")
	if e.N == 1 {
		w.put("rec")
	}
	separated(w, "and", e.Binds, func(b api.Bind) { w.bind(b, w.exp) })
	w.put("in")
	w.exp(e.Kids[0])
}

// bind writes what stands behind def, let or and.
func (w *writer) bind(b api.Bind, exp func(api.Exp)) {
	w.name(b.Name)
	w.put("=")
	exp(b.E)
}
