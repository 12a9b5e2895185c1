package parse

import (
	"strings"
	"testing"

	"cognate/api"
	"cognate/tree"
)

// wrap is a way to put something one level deeper; first is the beginning of open up to where something stands that is one level deeper.
type wrap struct{ first, open, close string }

var expWraps = []wrap{
	{"(", "(", ")"}, {"f (", "f (", ") y"}, {"a + (", "a + (", ")"}, {"(", "(", " : a)"}, {"\\x -> ", "\\x -> ", ""}, {"\\x y z -> ", "\\x y z -> ", ""}, {"a + \\x -> ", "a + \\x -> ", ""},
	{"let x = ", "let x = ", " in y"}, {"let x = ", "let x = y in ", ""}, {"let rec f = ", "let rec f = a and g = ", " in y"},
	{"if ", "if ", " then a else b"}, {"if ", "if a then ", " else b"}, {"if ", "if a then b else ", ""},
	{"case ", "case ", " of A -> 1 end"}, {"case ", "case a of A -> ", " end"}, {"case ", "case a of A -> 1 | B -> ", " | C -> 2 end"}, {"f case ", "f case ", " of A -> 1 end x"},
}

var typeWraps = []wrap{{"(", "(", ")"}, {"a -> ", "a -> ", ""}, {"(", "(a) -> ", ""}, {"List a (", "List a (", ") b"}, {"List () -> ", "List () -> ", ""}, {"(", "(", ") -> a"}}

var patWraps = []wrap{{"(", "(", ")"}, {"C x (", "C x (", ") y"}}

// deepest is where something of a level stands: before and behind it.
var deepest = []struct {
	of            string
	level         int
	before, after string
	parse         func(string) api.Diag
}{
	{"exp", 1, "", "", faces["exp"]}, {"exp", 1, "def x = ", ";", faces["prog"]}, {"exp", 1, "class Q a where def (+) = ", "; end;", faces["prog"]}, {"exp", 1, "instance Q (a -> b) from R a where def x = 1; def y = ", "; end;", faces["prog"]}, {"exp", 3, "((", "))", faces["exp"]},
	{"type", 1, "", "", faces["type"]}, {"type", 1, "class Q a where q : ", "; end;", faces["prog"]}, {"type", 1, "data T = A | B a (", ");", faces["prog"]}, {"type", 1, "instance Q (", ") where end;", faces["prog"]}, {"type", 2, "(x : ", ")", faces["exp"]}, {"type", 4, "f (if a then (x : ", ") else b)", faces["exp"]},
	{"pat", 2, "case x of ", " -> 1 end", faces["exp"]}, {"pat", 2, "case x of A -> 1 | ", " -> 1 end", faces["exp"]}, {"pat", 3, "\\x y -> case x of ", " -> 1 end", faces["exp"]},
}

// P6.1 and P6.2: level MaxDeep is allowed; one deeper is ErrDeep where it would begin, whatever stands there.
func TestDeep(t *testing.T) {
	wraps := map[string][]wrap{"exp": expWraps, "type": typeWraps, "pat": patWraps}
	for _, c := range deepest {
		for _, w := range wraps[c.of] {
			n := api.MaxDeep - c.level
			before, after := c.before+strings.Repeat(w.open, n), strings.Repeat(w.close, n)+c.after
			if d := c.parse(before + "x" + after); d != (api.Diag{}) {
				t.Errorf("%d times %q in %q: %v", n, w.open, c.before, d)
			}
			want := api.Diag{Code: api.ErrDeep, At: len(before + w.first)}
			for _, token := range []string{"x", "X", "((", "\\", "let", "case", ";", "=", "end", "->", "|", ",", ":", "", "data", "1", "\"a\"", "_", "a == b == c"} {
				if d := c.parse(before + w.first + token); d != want {
					t.Errorf("%d times %q in %q, then %q: %v, want %v", n+1, w.open, c.before, token, d, want)
				}
			}
			if d := c.parse(before + w.open + "x" + w.close + after); d != want {
				t.Errorf("%d times %q in %q: %v, want %v", n+1, w.open, c.before, d, want)
			}
		}
	}
}

// P6.1: ( ) and ( Op ) contain no exp, type or pat.
func TestDeepBrackets(t *testing.T) {
	open, closed := strings.Repeat("(", api.MaxDeep), strings.Repeat(")", api.MaxDeep)
	comes(t, Exp, open+closed, con("Unit", api.MaxDeep-1))
	comes(t, Exp, open+"+"+closed, v("+", api.MaxDeep-1))
	comes(t, Type, open+closed, tc("Unit"))
	comes(t, Exp, "case a of "+open[1:]+closed[1:]+" -> 1 end", cases(0, v("a", 5), alt(pcon("Unit", 10+api.MaxDeep-2), num(1, 10+2*(api.MaxDeep-1)+4))))
	fails(t, Exp, open+"+ x", api.ErrSyntax, api.MaxDeep+2)
	fails(t, Exp, open+"x"+closed, api.ErrDeep, api.MaxDeep)
	fails(t, Type, open+"+"+closed, api.ErrDeep, api.MaxDeep)
	fails(t, Exp, "case a of "+open[1:]+"+", api.ErrDeep, 10+api.MaxDeep-1)
}

// P6.1: levels end where they end: any number of deep ones can stand beside each other.
func TestDeepOnesBesideEachOther(t *testing.T) {
	nested := func(inner string, n int) string { return strings.Repeat("(", n) + inner + strings.Repeat(")", n) }
	deep := nested("x", api.MaxDeep-2)
	for _, src := range []string{
		"f " + strings.Repeat(deep+" ", 20),
		strings.Repeat(deep+" + ", 20) + deep,
		"(" + nested("x", api.MaxDeep-3) + " : " + nested("a", api.MaxDeep-3) + ") + " + deep,
		"case " + deep + " of " + nested("A", api.MaxDeep-2) + " -> " + deep + " | C " + nested("x", api.MaxDeep-2) + " () -> " + deep + " end",
		"let x = " + deep + " and y = " + deep + " in if " + nested("x", api.MaxDeep-3) + " then a else " + nested("x", api.MaxDeep-3),
		"case x of " + strings.Repeat("A -> 1 | ", 1000) + "A -> 1 end",
		"let x = 1" + strings.Repeat(" and x = 1", 1000) + " in x",
	} {
		if _, d := Exp(src); d != (api.Diag{}) {
			t.Errorf("%.60q: %v", src, d)
		}
	}
	decls := "def x = " + nested("x", api.MaxDeep-1) + ";class Q a where q : " + nested("a", api.MaxDeep-1) + ";end;data T = A " + nested("a", api.MaxDeep) + nested("a", api.MaxDeep) + ";instance Q " + nested("a", api.MaxDeep) + " where end;"
	p, d := Prog(strings.Repeat(decls, 15))
	if d != (api.Diag{}) || len(p.Binds) != 15 || len(p.Insts) != 15 || len(p.Datas) != 15 || len(p.Classes) != 15 {
		t.Errorf("many deep declarations: %v", d)
	}
	at := 2*len(decls) + len("def x = ") + api.MaxDeep
	fails(t, Prog, decls+decls+"def x = "+nested("x", api.MaxDeep)+";", api.ErrDeep, at)
}

// Sources as long as they can be: what has no levels has no end either.
func TestLongSources(t *testing.T) {
	count := func(s string) int { return (api.MaxSource - 100) / len(s) }
	for _, c := range []struct{ before, again, after string }{
		{"x", " x", ""}, {"x", "+x", ""}, {"x", "::x", ""}, {"x", ":=x", ""}, {"x", "&&x", ""}, {"x", "||x+1*2&&x", ""}, {"x==x", "&&x==x", ""},
		{"\\x", " x", " -> x"}, {"f", "(x)", ""}, {"case x of A", " _", " -> 1 end"}, {"case x of A -> 1", "|A->1", " end"}, {"(x : A", " a", ")"}, {"let x=1", " and x=1", " in x"},
	} {
		src := c.before + strings.Repeat(c.again, count(c.again)) + c.after
		e, d := Exp(src)
		if d != (api.Diag{}) || tree.Deep(e) < 2 {
			t.Errorf("many %q: %v", c.again, d)
		}
		fails(t, Exp, src+"\n;", api.ErrSyntax, len(src)+1)
	}
	for _, c := range []struct{ before, again, after string }{
		{"", "def x=1;", ""}, {"", "data T=A;", ""}, {"data T", " a", "=A;"}, {"data T=A", "|A", ";"}, {"data T=A", " a", ";"}, {"data T=A deriving(Q", ",Q", ");"}, {"class Q a from R", ",R", " where end;"},
		{"class Q a where ", "q:a;", "end;"}, {"class Q a where ", "def q=1;", "end;"}, {"instance Q a from R a", ",R a", " where end;"}, {"instance Q a where ", "def q=1;", "end;"},
	} {
		src := c.before + strings.Repeat(c.again, count(c.again)) + c.after
		p, d := Prog(src)
		if d != (api.Diag{}) || tree.SameProg(p, api.Prog{}) {
			t.Errorf("many %q: %v", c.again, d)
		}
		fails(t, Prog, src+"\n)", api.ErrSyntax, len(src)+1)
	}
	ops := strings.Repeat("x+x*", count("x+x*"))
	fails(t, Exp, ops+"x==x+x==x", api.ErrOps, len(ops)+6)
}

// P6.1: a function of several names has one level, whatever its depth.
func TestManyNames(t *testing.T) {
	names := strings.Repeat("x ", 2000)
	e, d := Exp("\\" + names + "-> " + strings.Repeat("(", api.MaxDeep-2) + "x" + strings.Repeat(")", api.MaxDeep-2))
	if d != (api.Diag{}) || tree.Deep(e) != 2001 || e.Kids[0].At != 3 || e.Kids[0].Kids[0].At != 5 {
		t.Errorf("a function of many names: %v, depth %d", d, tree.Deep(e))
	}
	fails(t, Exp, "\\"+names+"-> "+strings.Repeat("(", api.MaxDeep-1)+"x", api.ErrDeep, 1+len(names)+3+api.MaxDeep-1)
}
