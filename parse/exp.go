package parse

import (
	"slices"

	"cognate/api"
	"cognate/fix"
)

func (p *parser) exp() api.Exp { return below(p, p.operands) }

// operands reads the operands of an exp with the operators between them.
func (p *parser) operands() api.Exp {
	operands := []api.Exp{p.operand()}
	var ops []api.Token
	for p.ahead().Kind == api.TOp {
		ops = append(ops, p.take())
		operands = append(operands, p.operand())
	}
	return applied(operands, ops)
}

// applied returns the application of operators to the operands between which they stand.
func applied(operands []api.Exp, ops []api.Token) api.Exp {
	var names []string
	for _, op := range ops {
		names = append(names, op.Text)
	}
	order, clash, e := fix.Order(names)
	if e != api.OK {
		panic(api.Diag{Code: e, At: ops[clash].At})
	}
	// An operator follows those within its operands: once everything up to the operand behind it has been put down, its operands are the last two results.
	results := []api.Exp{operands[0]}
	used := 1
	for _, i := range order {
		for ; used <= i+1; used++ {
			results = append(results, operands[used])
		}
		last := len(results) - 1
		results[last-1] = infix(ops[i], results[last-1], results[last])
		results = results[:last]
	}
	return results[0]
}

// infix returns the application of an operator that stands between its operands.
func infix(op api.Token, a, b api.Exp) api.Exp {
	switch op.Text {
	case "&&":
		return api.Exp{Kind: api.EAnd, Kids: []api.Exp{a, b}, At: op.At}
	case "||":
		return api.Exp{Kind: api.EOr, Kids: []api.Exp{a, b}, At: op.At}
	}
	return apply(apply(named(api.EVar, op), a, op.At), b, op.At)
}

func apply(f, x api.Exp, at int) api.Exp {
	return api.Exp{Kind: api.EApp, Kids: []api.Exp{f, x}, At: at}
}

// named returns the variable, constructor or string that a token is.
func named(kind int, t api.Token) api.Exp {
	return api.Exp{Kind: kind, Name: t.Text, At: t.At}
}

func (p *parser) operand() api.Exp {
	at := p.ahead().At
	switch {
	case p.skip("\\"):
		return p.lam(at)
	case p.skip("let"):
		return p.let(at)
	case p.skip("if"):
		return p.choice(at)
	}
	e := p.atom()
	for p.seesAtom() {
		e = apply(e, p.atom(), at)
	}
	return e
}

// lam reads a function whose first token has been read.
func (p *parser) lam(at int) api.Exp {
	names := []api.Token{p.needKind(api.TLow)}
	names[0].At = at
	for p.seesLow() {
		names = append(names, p.take())
	}
	p.need(arrow)
	e := p.exp()
	for _, name := range slices.Backward(names) {
		e = api.Exp{Kind: api.ELam, Name: name.Text, Kids: []api.Exp{e}, At: name.At}
	}
	return e
}

// let reads a let whose first token has been read.
func (p *parser) let(at int) api.Exp {
	e := api.Exp{Kind: api.ELet, At: at}
	if p.skip("rec") {
		e.N = 1
	}
	e.Binds = some(p, "and", p.bind)
	p.need("in")
	e.Kids = []api.Exp{p.exp()}
	return e
}

// choice reads an if whose first token has been read.
func (p *parser) choice(at int) api.Exp {
	kids := []api.Exp{p.exp()}
	for _, sign := range [...]string{"then", "else"} {
		p.need(sign)
		kids = append(kids, p.exp())
	}
	return api.Exp{Kind: api.EIf, Kids: kids, At: at}
}

func (p *parser) seesAtom() bool {
	switch p.ahead().Kind {
	case api.TLow, api.TUp, api.TInt, api.TText:
		return true
	}
	return p.sees("(") || p.sees("case")
}

func (p *parser) atom() api.Exp {
	if !p.seesAtom() {
		panic(p.wrong(api.ErrSyntax))
	}
	first := p.take()
	switch first.Kind {
	case api.TLow:
		return named(api.EVar, first)
	case api.TUp:
		return named(api.ECon, first)
	case api.TText:
		return named(api.EStr, first)
	case api.TInt:
		return api.Exp{Kind: api.EInt, N: first.N, At: first.At}
	case api.TMark:
		return p.bracket(first.At)
	}
	return p.cases(first.At)
}

// bracket reads an atom whose opening bracket has been read.
func (p *parser) bracket(at int) api.Exp {
	if p.skip(")") {
		return api.Exp{Kind: api.ECon, Name: unit, At: at}
	}
	e := p.inBrackets(at)
	p.need(")")
	return e
}

// inBrackets reads what stands in the brackets of an atom that begins at a position.
func (p *parser) inBrackets(at int) api.Exp {
	if p.ahead().Kind == api.TOp {
		return api.Exp{Kind: api.EVar, Name: p.take().Text, At: at}
	}
	e := p.exp()
	if p.skip(":") {
		return api.Exp{Kind: api.EAnn, T: p.typ(), Kids: []api.Exp{e}, At: at}
	}
	return e
}

// cases reads a case whose first token has been read.
func (p *parser) cases(at int) api.Exp {
	e := api.Exp{Kind: api.ECase, Kids: []api.Exp{p.exp()}, At: at}
	p.need("of")
	e.Alts = some(p, "|", p.alt)
	p.need("end")
	return e
}

func (p *parser) alt() api.Alt {
	pat := p.pat()
	p.need(arrow)
	return api.Alt{P: pat, E: p.exp()}
}
