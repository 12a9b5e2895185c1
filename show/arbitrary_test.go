package show

import (
	"math/rand"
	"slices"
	"strings"
	"testing"

	"cognate/api"
	"cognate/fix"
	"cognate/lex"
	"cognate/parse"
	"cognate/tree"
)

// maker makes arbitrary well-formed trees.
type maker struct{ *rand.Rand }

func (m maker) pick(l ...string) string { return l[m.Intn(len(l))] }

func (m maker) low() string { return m.pick("x", "y'", "_z", "f", "letx") }

func (m maker) up() string { return m.pick("A", "Cons", "Unit", "T'") }

func (m maker) op() string {
	return m.pick(":=", "||", "&&", "==", "<", "::", "^", "+", "-", "*", "%", "!", "=>", "<>")
}

func (m maker) name() string {
	if m.Intn(3) == 0 {
		return m.op()
	}
	return m.low()
}

// list makes at least so many things, and seldom many.
func list[T any](m maker, least int, one func() T) []T {
	var l []T
	for len(l) < least || m.Intn(3) == 0 {
		l = append(l, one())
	}
	return l
}

func (m maker) exp(size int) api.Exp {
	inner := func() api.Exp { return m.exp(size - 1 - m.Intn(2)) }
	kind := m.Intn(14)
	if size <= 0 {
		kind = m.Intn(4)
	}
	switch kind {
	case 0:
		return api.Exp{Kind: api.EInt, N: m.Int63n(api.MaxInt) >> m.Intn(62)}
	case 1:
		return api.Exp{Kind: api.EStr, Name: m.pick("", "a b", "( x )", "+", "\n\t\"\\", "#", "é\r")}
	case 2:
		return api.Exp{Kind: api.ECon, Name: m.up()}
	case 3:
		return v(m.name())
	case 4:
		return api.Exp{Kind: api.ELam, Name: m.low(), Kids: []api.Exp{inner()}}
	case 5:
		return api.Exp{Kind: api.ELet, N: m.Int63n(2), Kids: []api.Exp{inner()}, Binds: list(m, 1, func() api.Bind { return m.bind(size - 1) })}
	case 6:
		return api.Exp{Kind: api.ECase, Kids: []api.Exp{inner()}, Alts: list(m, 1, func() api.Alt { return api.Alt{P: m.pat(size - 1), E: inner()} })}
	case 7:
		return of(api.EIf, inner(), inner(), inner())
	case 8:
		return api.Exp{Kind: api.EAnn, T: m.typ(size - 1), Kids: []api.Exp{inner()}}
	case 9:
		return of(api.EAnd+m.Intn(2), inner(), inner())
	case 10:
		return app(inner(), inner())
	}
	return op(m.op(), inner(), inner())
}

func (m maker) bind(size int) api.Bind { return api.Bind{Name: m.name(), E: m.exp(size)} }

func (m maker) pat(size int) api.Pat {
	switch m.Intn(6) {
	case 0:
		return api.Pat{Kind: api.PWild}
	case 1:
		return api.Pat{Kind: api.PVar, Name: m.low()}
	case 2:
		return api.Pat{Kind: api.PInt, N: m.Int63n(10)}
	}
	if size <= 0 {
		return pcon(m.up())
	}
	return pcon(m.up(), list(m, 0, func() api.Pat { return m.pat(size - 1) })...)
}

func (m maker) typ(size int) api.Type {
	switch {
	case m.Intn(4) == 0:
		return tv(m.low())
	case size > 0 && m.Intn(2) == 0:
		return tc("->", m.typ(size-1), m.typ(size-1))
	case size > 0:
		return tc(m.up(), list(m, 0, func() api.Type { return m.typ(size - 1) })...)
	}
	return tc(m.up())
}

func (m maker) prog(size int) api.Prog {
	bind := func() api.Bind { return m.bind(size) }
	return api.Prog{
		Datas: list(m, 0, func() api.Data {
			con := func() api.Con {
				return api.Con{Name: m.up(), Args: list(m, 0, func() api.Type { return m.typ(size) })}
			}
			return api.Data{Name: m.up(), Params: list(m, 0, m.low), Cons: list(m, 1, con), Deriv: list(m, 0, m.up)}
		}),
		Classes: list(m, 0, func() api.Class {
			method := func() api.Method { return api.Method{Name: m.name(), T: m.typ(size)} }
			return api.Class{Name: m.up(), Var: m.low(), Supers: list(m, 0, m.up), Methods: list(m, 0, method), Defaults: list(m, 0, bind)}
		}),
		Insts: list(m, 0, func() api.Inst {
			pred := func() api.Pred { return api.Pred{Class: m.up(), T: tv(m.low())} }
			return api.Inst{Class: m.up(), Head: m.typ(size), Ctx: list(m, 0, pred), Binds: list(m, 0, bind)}
		}),
		Binds: list(m, 0, bind),
	}
}

// neat checks that a text consists of tokens with single spaces between them, and that without any of its pairs of brackets it is not read as the same.
func neat(t *testing.T, text string, same func(string) bool) {
	t.Helper()
	tokens, d := lex.Scan(text)
	if d != (api.Diag{}) || lex.Join(tokens) != text {
		t.Fatalf("%q: %v, or other blanks", text, d)
	}
	var open []int
	for i, token := range tokens {
		if token.Kind != api.TMark {
			continue
		}
		switch token.Text {
		case "(":
			open = append(open, i)
		case ")":
			first := open[len(open)-1]
			open = open[:len(open)-1]
			without := lex.Join(slices.Concat(tokens[:first], tokens[first+1:i], tokens[i+1:]))
			if same(without) {
				t.Fatalf("%q: the same as %q", text, without)
			}
		}
	}
}

// The places where an infix application can stand: as a function, as an operand, anywhere else.
const (
	asFunction = iota
	asOperand
	elsewhere
)

// written checks how the infix applications in an expression are written, by the places that its text is parsed to. Of an operand, outer is the operator, and right its side.
func written(t *testing.T, text string, e api.Exp, where int, outer string, right, shallow bool) {
	t.Helper()
	isInfix := e.Kind == api.EApp && e.Kids[0].Kind == api.EApp && e.Kids[0].Kids[0].Kind == api.EVar && lex.IsOp(e.Kids[0].Kids[0].Name)
	if isInfix && e.Kids[0].Kids[0].Name != "&&" && e.Kids[0].Kids[0].Name != "||" {
		operator := e.Kids[0].Kids[0]
		ahead := where == asFunction || shallow && where == asOperand && fix.Needs(outer, operator.Name, right)
		if ahead != (text[operator.At] == '(') {
			t.Fatalf("%q: the operator at %d stands wrong (%v)", text, operator.At, shallow)
		}
		kids := elsewhere
		if !ahead {
			kids = asOperand
		}
		written(t, text, e.Kids[0].Kids[1], kids, operator.Name, false, shallow)
		written(t, text, e.Kids[1], kids, operator.Name, true, shallow)
		return
	}
	for i, kid := range e.Kids {
		switch {
		case e.Kind == api.EApp && i == 0:
			written(t, text, kid, asFunction, "", false, shallow)
		case e.Kind == api.EAnd:
			written(t, text, kid, asOperand, "&&", i == 1, shallow)
		case e.Kind == api.EOr:
			written(t, text, kid, asOperand, "||", i == 1, shallow)
		default:
			written(t, text, kid, elsewhere, "", false, shallow)
		}
	}
	for _, b := range e.Binds {
		written(t, text, b.E, elsewhere, "", false, shallow)
	}
	for _, a := range e.Alts {
		written(t, text, a.E, elsewhere, "", false, shallow)
	}
}

// P7.1 and P7.2: the texts of arbitrary expressions are read as the same, their operators stand where they should, and no brackets are dispensable.
func TestArbitraryExps(t *testing.T) {
	sizes := 0
	for seed := range int64(12000) {
		m := maker{rand.New(rand.NewSource(seed))}
		e := m.exp(m.Intn(7))
		text := Exp(e)
		again, d := parse.Exp(text)
		if !Right(e) || d != (api.Diag{}) || !tree.Same(again, e) {
			t.Fatalf("%d: %q: %v", seed, text, d)
		}
		sizes += tree.Size(e)
		if len(text) > 2000 {
			continue
		}
		written(t, text, again, elsewhere, "", false, false)
		neat(t, text, func(src string) bool {
			other, d := parse.Exp(src)
			return d == (api.Diag{}) && tree.Same(other, e)
		})
	}
	if sizes < 50000 {
		t.Errorf("only %d parts", sizes)
	}
}

// P7.1 and P7.2: likewise types and patterns.
func TestArbitraryTypesAndPats(t *testing.T) {
	for seed := range int64(4000) {
		m := maker{rand.New(rand.NewSource(seed))}
		x, p := m.typ(m.Intn(5)), m.pat(m.Intn(5))
		isType := func(src string) bool {
			again, d := parse.Type(src)
			return d == (api.Diag{}) && tree.SameType(again, x)
		}
		isPat := func(src string) bool {
			again, d := parse.Exp("case x of " + src + " -> y end")
			return d == (api.Diag{}) && len(again.Alts) == 1 && tree.SamePat(again.Alts[0].P, p)
		}
		if text := Type(x); !isType(text) {
			t.Fatalf("%d: %q", seed, text)
		}
		if text := Pat(p); !isPat(text) {
			t.Fatalf("%d: %q", seed, text)
		}
		neat(t, Type(x), isType)
		neat(t, Pat(p), isPat)
	}
}

// P7.1 and P7.2: likewise programs; each line is a declaration, and each expression in it is written as it is alone.
func TestArbitraryProgs(t *testing.T) {
	for seed := range int64(3000) {
		m := maker{rand.New(rand.NewSource(seed))}
		p := m.prog(m.Intn(4))
		text := Prog(p)
		is := func(src string) bool {
			again, d := parse.Prog(src)
			return d == (api.Diag{}) && tree.SameProg(again, p)
		}
		if !RightProg(p) || !is(text) {
			t.Fatalf("%d: %q", seed, text)
		}
		lines := strings.SplitAfter(text, "\n")
		if len(lines)-1 != len(p.Datas)+len(p.Classes)+len(p.Insts)+len(p.Binds) || lines[len(lines)-1] != "" {
			t.Fatalf("%d: %q has %d lines", seed, text, len(lines)-1)
		}
		for i, line := range lines[:len(lines)-1] {
			if !strings.HasSuffix(line, " ;\n") {
				t.Fatalf("%d: the line %q", seed, line)
			}
			if len(line) > 1000 {
				continue
			}
			neat(t, strings.TrimSuffix(line, "\n"), func(src string) bool {
				return is(strings.Join(slices.Concat(lines[:i], []string{src}, lines[i+1:]), " "))
			})
		}
		for i, b := range p.Binds {
			line := lines[len(lines)-1-len(p.Binds)+i]
			if !strings.HasPrefix(line, "def ") || !strings.HasSuffix(line, "= "+Exp(b.E)+" ;\n") {
				t.Fatalf("%d: %q in the line %q", seed, Exp(b.E), line)
			}
		}
	}
}

// Arguments are not changed, and the same one has the same text again.
func TestArgumentsStay(t *testing.T) {
	for seed := range int64(300) {
		p := maker{rand.New(rand.NewSource(seed))}.prog(4)
		same := maker{rand.New(rand.NewSource(seed))}.prog(4)
		first := Prog(p)
		if Prog(p) != first || Prog(same) != first || !tree.SameProg(p, same) {
			t.Fatalf("%d: %q, then %q", seed, first, Prog(p))
		}
	}
}
