package parse

import (
	"cognate/api"
)

func (p *parser) typ() api.Type { return below(p, p.function) }

// function reads a type that may be one of functions.
func (p *parser) function() api.Type {
	t := p.btype()
	if p.skip(arrow) {
		return api.Type{Kind: api.TCon, Name: arrow, Kids: []api.Type{t, p.typ()}}
	}
	return t
}

func (p *parser) btype() api.Type {
	if p.ahead().Kind != api.TUp {
		return p.atype()
	}
	return api.Type{Kind: api.TCon, Name: p.up(), Kids: many(p.seesType, p.atype)}
}

// seesType reports whether an atype begins at the next token.
func (p *parser) seesType() bool {
	kind := p.ahead().Kind
	return kind == api.TUp || kind == api.TLow || p.sees("(")
}

func (p *parser) atype() api.Type {
	switch p.ahead().Kind {
	case api.TUp:
		return api.Type{Kind: api.TCon, Name: p.up()}
	case api.TLow:
		return api.Type{Kind: api.TVar, Name: p.low()}
	}
	p.need("(")
	if p.skip(")") {
		return api.Type{Kind: api.TCon, Name: unit}
	}
	t := p.typ()
	p.need(")")
	return t
}
