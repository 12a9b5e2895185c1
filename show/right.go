package show

import (
	"slices"
	"unicode/utf8"

	"cognate/api"
	"cognate/lex"
)

// The type that the grammar writes with a mark, and the operators that between operands are no variables.
const (
	arrow = "->"
	and   = "&&"
	or    = "||"
)

// shape is what an expression or a pattern of a kind has besides its place.
type shape struct {
	// name tells which Names are valid; without it, there must be none.
	name func(string) bool
	// most is the greatest valid N; the least is 0.
	most int64
	// kids is how many Kids there are, or anyNumber.
	kids               int
	binds, alts, typed bool
}

const anyNumber = -1

// fits reports whether a Name, an N and a number of Kids are those of the shape.
func (s shape) fits(name string, n int64, kids int) bool {
	if s.name == nil && name != "" || s.name != nil && !s.name(name) {
		return false
	}
	return n >= 0 && n <= s.most && (kids == s.kids || s.kids == anyNumber)
}

// expShape returns the shape of the expressions of a kind; false if there is no such kind.
func expShape(kind int) (shape, bool) {
	switch kind {
	case api.EInt:
		return shape{most: api.MaxInt}, true
	case api.EStr:
		return shape{name: utf8.ValidString}, true
	case api.EVar:
		return shape{name: isName}, true
	case api.ECon:
		return shape{name: lex.IsUp}, true
	case api.EApp, api.EAnd, api.EOr:
		return shape{kids: 2}, true
	case api.ELam:
		return shape{name: lex.IsLow, kids: 1}, true
	case api.ELet:
		return shape{most: 1, kids: 1, binds: true}, true
	case api.ECase:
		return shape{kids: 1, alts: true}, true
	case api.EIf:
		return shape{kids: 3}, true
	case api.EAnn:
		return shape{kids: 1, typed: true}, true
	}
	return shape{}, false
}

// patShape returns the shape of the patterns of a kind; false if there is no such kind.
func patShape(kind int) (shape, bool) {
	switch kind {
	case api.PWild:
		return shape{}, true
	case api.PVar:
		return shape{name: lex.IsLow}, true
	case api.PCon:
		return shape{name: lex.IsUp, kids: anyNumber}, true
	case api.PInt:
		return shape{most: api.MaxInt}, true
	}
	return shape{}, false
}

// isName reports whether s is a name of a value: in the text an operator stands in brackets.
func isName(s string) bool { return lex.IsLow(s) || lex.IsOp(s) }

// Right reports whether an expression is well-formed.
func Right(e api.Exp) bool {
	s, ok := expShape(e.Kind)
	if !ok || !s.fits(e.Name, e.N, len(e.Kids)) {
		return false
	}
	if s.binds != (len(e.Binds) > 0) || s.alts != (len(e.Alts) > 0) {
		return false
	}
	if s.typed && !rightType(e.T) || !s.typed && !noType(e.T) {
		return false
	}
	return all(e.Kids, Right) && all(e.Binds, rightBind) && all(e.Alts, rightAlt)
}

func noType(t api.Type) bool { return t.Kind == 0 && t.Name == "" && t.N == 0 && len(t.Kids) == 0 }

func rightBind(b api.Bind) bool { return isName(b.Name) && Right(b.E) }

func rightAlt(a api.Alt) bool { return rightPat(a.P) && Right(a.E) }

func rightPat(p api.Pat) bool {
	s, ok := patShape(p.Kind)
	return ok && s.fits(p.Name, p.N, len(p.Kids)) && all(p.Kids, rightPat)
}

func rightType(t api.Type) bool {
	switch {
	case t.N != 0:
		return false
	case t.Kind == api.TVar:
		return lex.IsLow(t.Name) && len(t.Kids) == 0
	case t.Kind != api.TCon || !lex.IsUp(t.Name) && !isFunction(t):
		return false
	}
	return all(t.Kids, rightType)
}

// isFunction reports whether the grammar writes a type with an arrow.
func isFunction(t api.Type) bool { return t.Name == arrow && len(t.Kids) == 2 }

// RightProg reports whether a program is well-formed.
func RightProg(p api.Prog) bool {
	return all(p.Datas, rightData) && all(p.Classes, rightClass) && all(p.Insts, rightInst) && all(p.Binds, rightBind)
}

func rightData(d api.Data) bool {
	return lex.IsUp(d.Name) && all(d.Params, lex.IsLow) && len(d.Cons) > 0 && all(d.Cons, rightCon) && all(d.Deriv, lex.IsUp)
}

func rightCon(c api.Con) bool { return lex.IsUp(c.Name) && all(c.Args, rightType) }

func rightClass(c api.Class) bool {
	return lex.IsUp(c.Name) && lex.IsLow(c.Var) && all(c.Supers, lex.IsUp) && all(c.Methods, rightMethod) && all(c.Defaults, rightBind)
}

func rightMethod(m api.Method) bool { return isName(m.Name) && rightType(m.T) }

func rightInst(i api.Inst) bool {
	return lex.IsUp(i.Class) && rightType(i.Head) && all(i.Ctx, rightPred) && all(i.Binds, rightBind)
}

// rightPred reports whether an instance can ask for a predicate: that of a variable.
func rightPred(p api.Pred) bool {
	return lex.IsUp(p.Class) && p.T.Kind == api.TVar && rightType(p.T)
}

// all reports whether each element of a list is right.
func all[T any](l []T, right func(T) bool) bool {
	return !slices.ContainsFunc(l, func(x T) bool { return !right(x) })
}
