package parse

import (
	"cognate/api"
)

// tokens are those of a source that have not been read yet; the last one is a TEnd, and stays.
type tokens struct {
	unread []api.Token
}

// ahead returns the next token without reading it.
func (t *tokens) ahead() api.Token { return t.unread[0] }

// take reads the next token.
func (t *tokens) take() api.Token {
	next := t.ahead()
	if next.Kind != api.TEnd {
		t.unread = t.unread[1:]
	}
	return next
}

// sees reports whether the next token is the keyword or mark sign.
func (t *tokens) sees(sign string) bool {
	next := t.ahead()
	return (next.Kind == api.TKey || next.Kind == api.TMark) && next.Text == sign
}

// skip reads the keyword or mark sign if it is next, and reports whether it was.
func (t *tokens) skip(sign string) bool {
	ok := t.sees(sign)
	if ok {
		t.take()
	}
	return ok
}

// need reads the keyword or mark sign, which must be next.
func (t *tokens) need(sign string) {
	if !t.skip(sign) {
		panic(t.wrong(api.ErrSyntax))
	}
}

// needKind reads a token of a kind, which must be next.
func (t *tokens) needKind(kind int) api.Token {
	if t.ahead().Kind != kind {
		panic(t.wrong(api.ErrSyntax))
	}
	return t.take()
}

// wrong returns the error at the next token.
func (t *tokens) wrong(code api.Errno) api.Diag { return api.Diag{Code: code, At: t.ahead().At} }

func (t *tokens) seesLow() bool { return t.ahead().Kind == api.TLow }

func (t *tokens) low() string { return t.needKind(api.TLow).Text }

func (t *tokens) up() string { return t.needKind(api.TUp).Text }

// name reads the name of a value; At is where it begins, also if it begins with a bracket.
func (t *tokens) name() api.Token {
	if !t.sees("(") {
		return t.needKind(api.TLow)
	}
	at := t.take().At
	op := t.needKind(api.TOp)
	t.need(")")
	op.At = at
	return op
}
