package show

import (
	"cognate/api"
	"cognate/lex"
)

// writer writes tokens one behind the other.
type writer struct {
	text []byte
	// level is that of the exp, type or pat that is being written; 0 outside all of them.
	level int
	// deepest is the greatest level in the outermost exp, type or pat so far.
	deepest int
	// choose returns the form of an operand.
	choose func(e api.Exp, at place) form
}

// put writes tokens, with a space before each one that does not begin a line.
func (w *writer) put(tokens ...string) {
	for _, token := range tokens {
		if last := len(w.text) - 1; last >= 0 && w.text[last] != '\n' {
			w.text = append(w.text, ' ')
		}
		w.text = append(w.text, token...)
	}
}

// endLine ends the line. No token ends with a line feed, so that put finds the beginnings of lines by these.
func (w *writer) endLine() { w.text = append(w.text, '\n') }

// below writes an exp, a type or a pat: each is one level below the one that contains it.
func (w *writer) below(write func()) {
	w.level++
	w.deepest = max(w.deepest, w.level)
	write()
	w.level--
}

// name writes the name of a value.
func (w *writer) name(s string) {
	if lex.IsOp(s) {
		w.put("(", s, ")")
	} else {
		w.put(s)
	}
}

// inBrackets writes x in brackets.
func inBrackets[T any](w *writer, x T, write func(T)) {
	w.put("(")
	write(x)
	w.put(")")
}

// separated writes the elements of a list with a sign between them.
func separated[T any](w *writer, sign string, l []T, write func(T)) {
	for i, x := range l {
		if i > 0 {
			w.put(sign)
		}
		write(x)
	}
}

// token writes a token.
func (w *writer) token(s string) { w.put(s) }
