package parse

import (
	"cognate/api"
)

func (p *parser) pat() api.Pat { return below(p, p.application) }

// application reads a pattern that may be a constructor with arguments.
func (p *parser) application() api.Pat {
	if p.ahead().Kind != api.TUp {
		return p.apat()
	}
	con := p.take()
	return api.Pat{Kind: api.PCon, Name: con.Text, Kids: many(p.seesPat, p.apat), At: con.At}
}

// seesPat reports whether an apat begins at the next token.
func (p *parser) seesPat() bool {
	switch p.ahead().Kind {
	case api.TLow, api.TUp, api.TInt:
		return true
	}
	return p.sees("_") || p.sees("(")
}

func (p *parser) apat() api.Pat {
	if !p.seesPat() {
		panic(p.wrong(api.ErrSyntax))
	}
	first := p.take()
	switch {
	case first.Kind == api.TLow:
		return api.Pat{Kind: api.PVar, Name: first.Text, At: first.At}
	case first.Kind == api.TUp:
		return api.Pat{Kind: api.PCon, Name: first.Text, At: first.At}
	case first.Kind == api.TInt:
		return api.Pat{Kind: api.PInt, N: first.N, At: first.At}
	case first.Text == "_":
		return api.Pat{Kind: api.PWild, At: first.At}
	case p.skip(")"):
		return api.Pat{Kind: api.PCon, Name: unit, At: first.At}
	}
	pat := p.pat()
	p.need(")")
	return pat
}
