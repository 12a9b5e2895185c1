package show

import (
	"strings"
	"testing"

	"cognate/api"
	"cognate/parse"
	"cognate/tree"
)

func v(name string) api.Exp { return api.Exp{Kind: api.EVar, Name: name} }

// of returns an expression of a kind that has only Kids.
func of(kind int, kids ...api.Exp) api.Exp { return api.Exp{Kind: kind, Kids: kids} }

func app(f, x api.Exp) api.Exp { return of(api.EApp, f, x) }

// op applies an operator to two operands.
func op(name string, a, b api.Exp) api.Exp { return app(app(v(name), a), b) }

func tv(name string) api.Type { return api.Type{Kind: api.TVar, Name: name} }

func tc(name string, kids ...api.Type) api.Type {
	return api.Type{Kind: api.TCon, Name: name, Kids: kids}
}

func pcon(name string, kids ...api.Pat) api.Pat {
	return api.Pat{Kind: api.PCon, Name: name, Kids: kids}
}

// parsed returns the expression of a source.
func parsed(t *testing.T, src string) api.Exp {
	t.Helper()
	e, d := parse.Exp(src)
	if d != (api.Diag{}) {
		t.Fatalf("%.300q: %v", src, d)
	}
	return e
}

// becomes checks the text of a source's expression, and that it is parsed to the same expression.
func becomes(t *testing.T, src, want string) {
	t.Helper()
	e := parsed(t, src)
	if !Right(e) {
		t.Errorf("%q isn't well-formed", src)
	}
	got := Exp(e)
	if got != want {
		t.Errorf("%q:\ngot  %q\nwant %q", src, got, want)
	}
	if again, d := parse.Exp(got); d != (api.Diag{}) || !tree.Same(again, e) {
		t.Errorf("%q: %q is read as something else: %v", src, got, d)
	}
}

// P7.1: atoms.
func TestAtoms(t *testing.T) {
	for src, want := range map[string]string{
		"007": "7", "0": "0", "4611686018427387903": "4611686018427387903", "x'_1": "x'_1", "(x)": "x", "((x))": "x", "Nil": "Nil", "()": "Unit", "Unit": "Unit",
		"(+)": "( + )", "(&&)": "( && )", "(||)": "( || )", "(:=)": "( := )", "(::)": "( :: )", "((-))": "( - )",
		`""`: `""`, `"a b"`: `"a b"`, `"\n\t\"\\"`: `"\n\t\"\\"`, "\"\t\"": `"\t"`, "\"\r\u00e9\ufffd#\"": "\"\r\u00e9\ufffd#\"",
		"case x of y->1 end":                                   "case x of y -> 1 end",
		"case f x+1 of A->1|B->\\x->x|_->a b end":              "case f x + 1 of A -> 1 | B -> \\ x -> x | _ -> a b end",
		"case case x of _->y end of _->case x of _->y end end": "case case x of _ -> y end of _ -> case x of _ -> y end end",
		"(x:a)": "( x : a )", "(x+1:List a->b)": "( x + 1 : List a -> b )", "((x:a):b)": "( ( x : a ) : b )", "(\\x->x:a->a)": "( \\ x -> x : a -> a )",
	} {
		becomes(t, src, want)
	}
}

// P7.1: open expressions.
func TestOpen(t *testing.T) {
	for src, want := range map[string]string{
		"\\x->x": "\\ x -> x", "\\x y _z->f x": "\\ x -> \\ y -> \\ _z -> f x", "\\x->(\\y->x)": "\\ x -> \\ y -> x", "\\x->(x+1)": "\\ x -> x + 1",
		"let x=1 in x": "let x = 1 in x", "let rec f=\\x->f x in f": "let rec f = \\ x -> f x in f", "let (+)=f and g=(let x=1 in x) in(let y=2 in y)": "let ( + ) = f and g = let x = 1 in x in let y = 2 in y",
		"let rec (&&)=f and (||)=g and h=(+)in (&&)": "let rec ( && ) = f and ( || ) = g and h = ( + ) in ( && )",
		"if a then b else c":                         "if a then b else c", "if(if a then b else c)then(\\x->x)else(let x=1 in x)": "if if a then b else c then \\ x -> x else let x = 1 in x",
	} {
		becomes(t, src, want)
	}
}

// P7.1: applications.
func TestApplications(t *testing.T) {
	for src, want := range map[string]string{
		"f x": "f x", "f x y z": "f x y z", "((f x) y) z": "f x y z", "f (x y) z": "f ( x y ) z", "f (g (h x))": "f ( g ( h x ) )", "f(x)(y)": "f x y",
		"1 2 \"a\" A ()": "1 2 \"a\" A Unit", "Cons (Cons x)": "Cons ( Cons x )", "f (x:a) (y:b)": "f ( x : a ) ( y : b )", "(f:a) x": "( f : a ) x",
		"case x of _->f end y": "case x of _ -> f end y", "f case x of _->y end": "f case x of _ -> y end",
		"(\\x->x) y": "( \\ x -> x ) y", "f(\\x->x)": "f ( \\ x -> x )", "(let x=1 in x) y": "( let x = 1 in x ) y", "f(let x=1 in x)y": "f ( let x = 1 in x ) y",
		"(if a then b else c) d": "( if a then b else c ) d", "f(if a then b else c)": "f ( if a then b else c )",
		"f(a+b)": "f ( a + b )", "f(a&&b)(c||d)": "f ( a && b ) ( c || d )", "(a&&b)c": "( a && b ) c", "(a||b)c d": "( a || b ) c d", "f(+)": "f ( + )", "f(&&)x": "f ( && ) x",
		// In the place of a function, an infix application is no operand, and written with its operator ahead.
		"(a+b)c": "( + ) a b c", "(a+b)c d": "( + ) a b c d", "(a*(b+c))d": "( * ) a ( b + c ) d", "(a+b+c)d": "( + ) ( a + b ) c d", "(f a+g b)c": "( + ) ( f a ) ( g b ) c",
		"(a+\\x->x)b": "( + ) a ( \\ x -> x ) b", "((a+b)c+d)e": "( + ) ( ( + ) a b c ) d e", "(a::b)c": "( :: ) a b c", "((a&&b)+c)d": "( + ) ( a && b ) c d",
		"(+)": "( + )", "(+)a": "( + ) a", "(+)(a+b)": "( + ) ( a + b )", "(+)((+)a)": "( + ) ( ( + ) a )", "f((+)a)": "f ( ( + ) a )", "(+)a b": "a + b", "f((+)a b)": "f ( a + b )", "(+)a b c": "( + ) a b c",
		// Between operands, && and || are no variables.
		"(&&)a b": "( && ) a b", "(||)a": "( || ) a", "(&&)a b c": "( && ) a b c", "f((&&)a b)": "f ( ( && ) a b )", "(&&)(a&&b)(c||d)": "( && ) ( a && b ) ( c || d )",
		"\"+\"a b": "\"+\" a b", "\"+\"(a b)(c+d)": "\"+\" ( a b ) ( c + d )", "f(\"*\"a b)": "f ( \"*\" a b )",
		"(&)a b": "a & b", "(|||)a b": "a ||| b", "(==)a b": "a == b", "(:=)a b": "a := b",
	} {
		becomes(t, src, want)
	}
}

// P7.1: operands that are neither infix nor open have no brackets, infix ones those that they need.
func TestOperands(t *testing.T) {
	for src, want := range map[string]string{
		"a+b": "a + b", "1+\"a\"": "1 + \"a\"", "A::()": "A :: Unit", "(+)+(+)": "( + ) + ( + )", "(x:a)+(y:b)": "( x : a ) + ( y : b )", "case x of _->y end+case x of _->y end": "case x of _ -> y end + case x of _ -> y end",
		"(f x)+(g y z)": "f x + g y z", "((+)a)*((+)b)": "( + ) a * ( + ) b", "((&&)a b)*((||)a b)": "( && ) a b * ( || ) a b", "(a+b)c*d": "( + ) a b c * d", "(&&)a b&&c": "( && ) a b && c", "f(a+b)*g(c+d)": "f ( a + b ) * g ( c + d )", "\"+\"a b*c": "\"+\" a b * c",
		"(a+b)+c": "a + b + c", "a+(b+c)": "a + ( b + c )", "(a-b)+c-(d-e)": "a - b + c - ( d - e )", "(a*b)+(c*d)": "a * b + c * d", "(a+b)*(c+d)": "( a + b ) * ( c + d )", "a*b/c%d": "a * b / c % d", "a*(b/c)": "a * ( b / c )",
		"a::(b::c)": "a :: b :: c", "(a::b)::c": "( a :: b ) :: c", "(a::b)^(c::d)": "( a :: b ) ^ c :: d", "a:=(b:=c)": "a := b := c", "(a:=b):=c": "( a := b ) := c",
		"a&&(b&&c)": "a && b && c", "(a&&b)&&c": "( a && b ) && c", "a||(b||c)": "a || b || c", "(a||b)||c": "( a || b ) || c", "a&&b||c&&d": "a && b || c && d", "a&&(b||c)&&d": "a && ( b || c ) && d",
		"a==b": "a == b", "(a==b)==c": "( a == b ) == c", "a==(b==c)": "a == ( b == c )", "(a<b)/=(c>=d)": "( a < b ) /= ( c >= d )", "a==b&&c<=d||e>f": "a == b && c <= d || e > f", "(a&&b)==(c||d)": "( a && b ) == ( c || d )",
		"a+1==b::c": "a + 1 == b :: c", "(a==b)+c": "( a == b ) + c", "a:=b||c": "a := b || c", "(a:=b)||c": "( a := b ) || c", "a||(b:=c)": "a || ( b := c )", "a&&(b:=c)": "a && ( b := c )",
		"a!b<>c": "a ! b <> c", "a!(b<>c)": "a ! ( b <> c )", "a*b!c": "a * b ! c", "(a*b)!c": "( a * b ) ! c",
		"(+)a b*c": "( a + b ) * c", "(+)(a*b)(c*d)": "a * b + c * d", "f x y+g(x y)": "f x y + g ( x y )",
	} {
		becomes(t, src, want)
	}
}

// P7.1: an open operand has no brackets if it is a right one and the exp in which it stands ends with it.
func TestOpenOperands(t *testing.T) {
	for _, open := range []string{"\\ x -> x", "let x = 1 in x", "if a then b else c", "\\ x -> x + 1"} {
		for hole, want := range map[string]string{
			"a+(O)": "a + O", "(O)+a": "( O ) + a", "(O)+(O)": "( O ) + O", "a&&(O)": "a && O", "(O)||(O)": "( O ) || O", "a:=(O)": "a := O",
			"a+b*(O)": "a + b * O", "a*(O)+b": "a * ( O ) + b", "a-(O)-b": "a - ( O ) - b", "a-b-(O)": "a - b - O", "a::(O)::b": "a :: ( O ) :: b", "a::b::(O)": "a :: b :: O", "a==(O)&&b": "a == ( O ) && b", "a==b&&(O)": "a == b && O",
			// Brackets around what ends with it, and what stands behind these, are none of its exp's.
			"(a+(O))*b": "( a + O ) * b", "b*(a+(O))": "b * ( a + O )", "(a&&(O))==b": "( a && O ) == b", "((a||(O))&&b)c": "( ( a || O ) && b ) c", "f(a+(O))": "f ( a + O )", "f(a+(O))b": "f ( a + O ) b", "(a+(O))b": "( + ) a ( O ) b",
			"if a+(O)then a+(O)else a+(O)": "if a + O then a + O else a + O", "let f=a+(O)and g=a+(O)in a+(O)": "let f = a + O and g = a + O in a + O",
			"case a+(O)of _->a+(O)|_->a+(O)end": "case a + O of _ -> a + O | _ -> a + O end", "(a+(O):a)": "( a + O : a )", "\\y->a+(O)": "\\ y -> a + O", "b-(\\y->a+(O))-c": "b - ( \\ y -> a + O ) - c",
		} {
			becomes(t, strings.ReplaceAll(hole, "O", open), strings.ReplaceAll(want, "O", open))
		}
	}
}

// P7.1: what the examples of the chapter say.
func TestExamples(t *testing.T) {
	becomes(t, "f x+1*(2+y)", "f x + 1 * ( 2 + y )")
	becomes(t, "(+) 1", "( + ) 1")
}

// P7.1: patterns have brackets exactly where the grammar requires them.
func TestPat(t *testing.T) {
	for src, want := range map[string]string{
		"x": "x", "_": "_", "_x": "_x", "A": "A", "()": "Unit", "007": "7", "4611686018427387903": "4611686018427387903", "(x)": "x", "((A))": "A",
		"C x": "C x", "C _ 1 A () y": "C _ 1 A Unit y", "C(D x)(E)(F(G 1)_)": "C ( D x ) E ( F ( G 1 ) _ )", "(C (x))": "C x", "Unit x": "Unit x",
	} {
		e := parsed(t, "case a of "+src+" -> b end")
		p := e.Alts[0].P
		if got := Pat(p); got != want {
			t.Errorf("%q: %q, want %q", src, got, want)
		}
		becomes(t, "case a of "+src+"->b|"+src+"->c end", "case a of "+want+" -> b | "+want+" -> c end")
	}
}

// P7.1: types have brackets exactly where the grammar requires them.
func TestType(t *testing.T) {
	for src, want := range map[string]string{
		"a": "a", "_a'": "_a'", "A": "A", "()": "Unit", "(a)": "a", "((A))": "A", "List a": "List a", "(List (a))": "List a", "P a B ()": "P a B Unit", "Unit a": "Unit a",
		"List(List a)": "List ( List a )", "P(P a b)(P c d)": "P ( P a b ) ( P c d )", "a->b": "a -> b", "a->b->c": "a -> b -> c", "a->(b->c)": "a -> b -> c", "(a->b)->c": "( a -> b ) -> c",
		"((a->b)->c)->d": "( ( a -> b ) -> c ) -> d", "(a->b)->(c->d)->e": "( a -> b ) -> ( c -> d ) -> e", "List(a->b)": "List ( a -> b )", "(List a)->(List b)": "List a -> List b", "List(List a->b)->c": "List ( List a -> b ) -> c",
	} {
		x, d := parse.Type(src)
		if got := Type(x); got != want || d != (api.Diag{}) {
			t.Errorf("%q: %q, want %q; %v", src, got, want, d)
		}
		if again, d := parse.Type(want); d != (api.Diag{}) || !tree.SameType(again, x) {
			t.Errorf("%q: %q is read as something else: %v", src, want, d)
		}
		becomes(t, "(x:"+src+")", "( x : "+want+" )")
	}
}

// P7.1: each declaration on a line, the kinds of declarations in their order.
func TestProg(t *testing.T) {
	for src, want := range map[string]string{
		"": "", " # nothing\n": "",
		"data T=A;": "data T = A ;\n", "data T a _b=A|B a(T a _b)()|C(a->b);": "data T a _b = A | B a ( T a _b ) Unit | C ( a -> b ) ;\n",
		"data T=A deriving(Eq);": "data T = A deriving ( Eq ) ;\n", "data T=A|B deriving(Eq,Ord , Show);": "data T = A | B deriving ( Eq , Ord , Show ) ;\n",
		"class Q a where end;": "class Q a where end ;\n", "class Q a from R where end;": "class Q a from R where end ;\n", "class Q a from R,S where q:a;(+):a->a->a;end;": "class Q a from R , S where q : a ; ( + ) : a -> a -> a ; end ;\n",
		"class Q a where def q=1;q:a;def(+)=\\x y->x;(+):(a->b)->c;end;": "class Q a where q : a ; ( + ) : ( a -> b ) -> c ; def q = 1 ; def ( + ) = \\ x -> \\ y -> x ; end ;\n",
		"instance Q a where end;": "instance Q a where end ;\n", "instance Q(T)where end;": "instance Q T where end ;\n", "instance Q()where end;": "instance Q Unit where end ;\n", "instance Q(a->b)where end;": "instance Q ( a -> b ) where end ;\n",
		"instance Q(T a b)from R a,S b where def q=1;def(+)=(+);end;": "instance Q ( T a b ) from R a , S b where def q = 1 ; def ( + ) = ( + ) ; end ;\n",
		"def x=1;": "def x = 1 ;\n", "def(&&)=\\x->x;": "def ( && ) = \\ x -> x ;\n", "def f=a+\\x->x;def s=\"\\n;\";": "def f = a + \\ x -> x ;\ndef s = \"\\n;\" ;\n",
		"def b=2;instance Q T where end;data T=A;class Q a where end;data S=B;def a=1;instance R T where end;class R a where end;": "data T = A ;\ndata S = B ;\nclass Q a where end ;\nclass R a where end ;\ninstance Q T where end ;\ninstance R T where end ;\ndef b = 2 ;\ndef a = 1 ;\n",
	} {
		p, d := parse.Prog(src)
		got := Prog(p)
		if got != want || d != (api.Diag{}) || !RightProg(p) {
			t.Errorf("%q: %v\ngot  %q\nwant %q", src, d, got, want)
		}
		if again, d := parse.Prog(got); d != (api.Diag{}) || !tree.SameProg(again, p) {
			t.Errorf("%q: %q is read as something else: %v", src, got, d)
		}
	}
}
