package parse

import (
	"cognate/api"
)

func (p *parser) prog() api.Prog {
	var all api.Prog
	for p.ahead().Kind != api.TEnd {
		p.decl(&all)
		p.need(";")
	}
	return all
}

// decl reads a declaration, without its semicolon, and adds it to a program.
func (p *parser) decl(to *api.Prog) {
	switch {
	case p.skip("data"):
		to.Datas = append(to.Datas, p.data())
	case p.skip("class"):
		to.Classes = append(to.Classes, p.class())
	case p.skip("instance"):
		to.Insts = append(to.Insts, p.instance())
	default:
		to.Binds = append(to.Binds, p.def())
	}
}

func (p *parser) data() api.Data {
	name := p.needKind(api.TUp)
	d := api.Data{Name: name.Text, At: name.At, Params: many(p.seesLow, p.low)}
	p.need("=")
	d.Cons = some(p, "|", p.con)
	if p.skip("deriving") {
		p.need("(")
		d.Deriv = some(p, ",", p.up)
		p.need(")")
	}
	return d
}

func (p *parser) con() api.Con {
	name := p.needKind(api.TUp)
	return api.Con{Name: name.Text, Args: many(p.seesType, p.atype), At: name.At}
}

func (p *parser) class() api.Class {
	name := p.needKind(api.TUp)
	c := api.Class{Name: name.Text, At: name.At, Var: p.low()}
	if p.skip("from") {
		c.Supers = some(p, ",", p.up)
	}
	p.need("where")
	for !p.skip("end") {
		if p.sees("def") {
			c.Defaults = append(c.Defaults, p.def())
		} else {
			c.Methods = append(c.Methods, p.method())
		}
		p.need(";")
	}
	return c
}

func (p *parser) method() api.Method {
	name := p.name()
	p.need(":")
	return api.Method{Name: name.Text, T: p.typ(), At: name.At}
}

func (p *parser) instance() api.Inst {
	class := p.needKind(api.TUp)
	i := api.Inst{Class: class.Text, Head: p.atype(), At: class.At}
	if p.skip("from") {
		i.Ctx = some(p, ",", p.pred)
	}
	p.need("where")
	for !p.skip("end") {
		i.Binds = append(i.Binds, p.def())
		p.need(";")
	}
	return i
}

func (p *parser) pred() api.Pred {
	class := p.up()
	return api.Pred{Class: class, T: api.Type{Kind: api.TVar, Name: p.low()}}
}

func (p *parser) def() api.Bind {
	p.need("def")
	return p.bind()
}

// bind reads what stands behind def, let or and: a name and its expression.
func (p *parser) bind() api.Bind {
	name := p.name()
	p.need("=")
	return api.Bind{Name: name.Text, E: p.exp(), At: name.At}
}
