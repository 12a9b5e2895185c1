package parse

import (
	"reflect"
	"strings"
	"testing"

	"cognate/api"
)

func leaf(kind int, name string, at int) api.Exp { return api.Exp{Kind: kind, Name: name, At: at} }

func v(name string, at int) api.Exp { return leaf(api.EVar, name, at) }

func con(name string, at int) api.Exp { return leaf(api.ECon, name, at) }

func str(s string, at int) api.Exp { return leaf(api.EStr, s, at) }

func num(n int64, at int) api.Exp { return api.Exp{Kind: api.EInt, N: n, At: at} }

// of returns an expression of a kind that has only Kids.
func of(kind, at int, kids ...api.Exp) api.Exp { return api.Exp{Kind: kind, Kids: kids, At: at} }

func app(at int, f, x api.Exp) api.Exp { return of(api.EApp, at, f, x) }

// op applies an operator that stands between its operands.
func op(name string, at int, a, b api.Exp) api.Exp { return app(at, app(at, v(name, at), a), b) }

func lam(name string, at int, body api.Exp) api.Exp {
	return api.Exp{Kind: api.ELam, Name: name, Kids: []api.Exp{body}, At: at}
}

func bind(name string, at int, e api.Exp) api.Bind { return api.Bind{Name: name, E: e, At: at} }

func let(rec int64, at int, body api.Exp, binds ...api.Bind) api.Exp {
	return api.Exp{Kind: api.ELet, N: rec, Binds: binds, Kids: []api.Exp{body}, At: at}
}

func cases(at int, e api.Exp, alts ...api.Alt) api.Exp {
	return api.Exp{Kind: api.ECase, Kids: []api.Exp{e}, Alts: alts, At: at}
}

func alt(p api.Pat, e api.Exp) api.Alt { return api.Alt{P: p, E: e} }

func ann(at int, e api.Exp, t api.Type) api.Exp {
	return api.Exp{Kind: api.EAnn, T: t, Kids: []api.Exp{e}, At: at}
}

func pvar(name string, at int) api.Pat { return api.Pat{Kind: api.PVar, Name: name, At: at} }

func pint(n int64, at int) api.Pat { return api.Pat{Kind: api.PInt, N: n, At: at} }

func wild(at int) api.Pat { return api.Pat{Kind: api.PWild, At: at} }

func pcon(name string, at int, kids ...api.Pat) api.Pat {
	return api.Pat{Kind: api.PCon, Name: name, Kids: kids, At: at}
}

func tv(name string) api.Type { return api.Type{Kind: api.TVar, Name: name} }

func tc(name string, kids ...api.Type) api.Type {
	return api.Type{Kind: api.TCon, Name: name, Kids: kids}
}

func fun(a, b api.Type) api.Type { return tc("->", a, b) }

// visit calls f with x and all values within it, the inner ones first.
func visit(x reflect.Value, f func(reflect.Value)) {
	switch x.Kind() {
	case reflect.Struct:
		for i := range x.NumField() {
			visit(x.Field(i), f)
		}
	case reflect.Slice:
		for i := range x.Len() {
			visit(x.Index(i), f)
		}
	}
	f(x)
}

// equal reports whether two results are the same in every field; an empty list is the same as none.
func equal[T any](a, b T) bool {
	for _, x := range []*T{&a, &b} {
		visit(reflect.ValueOf(x).Elem(), func(y reflect.Value) {
			if y.Kind() == reflect.Slice && y.Len() == 0 {
				y.SetZero()
			}
		})
	}
	return reflect.DeepEqual(a, b)
}

// comes checks that a source comes to something.
func comes[T any](t *testing.T, read func(string) (T, api.Diag), src string, want T) {
	t.Helper()
	got, d := read(src)
	if d != (api.Diag{}) || !equal(got, want) {
		t.Errorf("%.300q:\ngot  %+v, %v\nwant %+v", src, got, d, want)
	}
}

// fails checks that a source has an error, and comes to nothing.
func fails[T any](t *testing.T, read func(string) (T, api.Diag), src string, code api.Errno, at int) {
	t.Helper()
	var none T
	if got, d := read(src); d != (api.Diag{Code: code, At: at}) || !reflect.DeepEqual(got, none) {
		t.Errorf("%.300q: %v, want {%d %d}; or not nothing", src, d, code, at)
	}
}

// P6.2: every kind of expression, with its place.
func TestExp(t *testing.T) {
	for src, want := range map[string]api.Exp{
		"x": v("x", 0), " \n x'1 # c": v("x'1", 3), "Nil": con("Nil", 0), "()": con("Unit", 0), " ( )": con("Unit", 1), "Unit": con("Unit", 0),
		"007": num(7, 0), "4611686018427387903": num(api.MaxInt, 0), `"a\n("`: str("a\n(", 0), `""`: str("", 0),
		"(+)": v("+", 0), " ( && )": v("&&", 1), "(||)": v("||", 0), "(:=)": v(":=", 0), "(x)": v("x", 1), "((((x))))": v("x", 4), "((+))": v("+", 1), "(())": con("Unit", 1),
		"f x":         app(0, v("f", 0), v("x", 2)),
		"f x 1 \"a\"": app(0, app(0, app(0, v("f", 0), v("x", 2)), num(1, 4)), str("a", 6)),
		"Cons 1 Nil":  app(0, app(0, con("Cons", 0), num(1, 5)), con("Nil", 7)),
		"f (g x) ()":  app(0, app(0, v("f", 0), app(3, v("g", 3), v("x", 5))), con("Unit", 8)),
		"(+) 1":       app(0, v("+", 0), num(1, 4)),
		"1 2":         app(0, num(1, 0), num(2, 2)),
		// An atom begins at its bracket.
		"(f x) y":                               app(0, app(1, v("f", 1), v("x", 3)), v("y", 6)),
		" ((f)) x":                              app(1, v("f", 3), v("x", 7)),
		"(a + b) c":                             app(0, op("+", 3, v("a", 1), v("b", 5)), v("c", 8)),
		`f case x of y -> y end z`:              app(0, app(0, v("f", 0), cases(2, v("x", 7), alt(pvar("y", 12), v("y", 17)))), v("z", 23)),
		`\x -> x`:                               lam("x", 0, v("x", 6)),
		`\x y _z->x y`:                          lam("x", 0, lam("y", 3, lam("_z", 5, app(9, v("x", 9), v("y", 11))))),
		` \x -> \x -> x`:                        lam("x", 1, lam("x", 7, v("x", 13))),
		`\x -> x + 1`:                           lam("x", 0, op("+", 8, v("x", 6), num(1, 10))),
		`(\x -> x) + 1`:                         op("+", 10, lam("x", 1, v("x", 7)), num(1, 12)),
		"let x = 1 in x":                        let(0, 0, v("x", 13), bind("x", 4, num(1, 8))),
		" let rec f=g and (+)=h in 1":           let(1, 1, num(1, 26), bind("f", 9, v("g", 11)), bind("+", 17, v("h", 21))),
		"let ( + ) = a in a + b":                let(0, 0, op("+", 19, v("a", 17), v("b", 21)), bind("+", 4, v("a", 12))),
		"let a = let b = 1 in 2 and c = 3 in 4": let(0, 0, num(4, 36), bind("a", 4, let(0, 8, num(2, 21), bind("b", 12, num(1, 16)))), bind("c", 27, num(3, 31))),
		"if a then b else c":                    of(api.EIf, 0, v("a", 3), v("b", 10), v("c", 17)),
		"if a then if b then c else d else e":   of(api.EIf, 0, v("a", 3), of(api.EIf, 10, v("b", 13), v("c", 20), v("d", 27)), v("e", 34)),
		"if a then b else c + d":                of(api.EIf, 0, v("a", 3), v("b", 10), op("+", 19, v("c", 17), v("d", 21))),
		"(x : a)":                               ann(0, v("x", 1), tv("a")),
		"f (x+1:Int->List (a))":                 app(0, v("f", 0), ann(2, op("+", 4, v("x", 3), num(1, 5)), fun(tc("Int"), tc("List", tv("a"))))),
		`(\x -> x : a)`:                         ann(0, lam("x", 1, v("x", 7)), tv("a")),
		"((x : a) : ())":                        ann(0, ann(1, v("x", 2), tv("a")), tc("Unit")),
		"case x of _ -> 1 end":                  cases(0, v("x", 5), alt(wild(10), num(1, 15))),
		`case "a" of A -> case b of c -> d end | B -> \x -> 1 end`: cases(0, str("a", 5),
			alt(pcon("A", 12), cases(17, v("b", 22), alt(pvar("c", 27), v("d", 32)))), alt(pcon("B", 40), lam("x", 45, num(1, 51)))),
	} {
		comes(t, Exp, src, want)
	}
}

// P6.2: operators are applied as layer 4 says, and stand where they stand.
func TestOperators(t *testing.T) {
	a, b, c := v("a", 0), v("b", 5), v("c", 10)
	for src, want := range map[string]api.Exp{
		"a  + b  + c":  op("+", 8, op("+", 3, a, b), c),
		"a  + b  * c":  op("+", 3, a, op("*", 8, b, c)),
		"a  * b  + c":  op("+", 8, op("*", 3, a, b), c),
		"a :: b :: c":  op("::", 2, a, op("::", 7, b, c)),
		"a := b := c":  op(":=", 2, a, op(":=", 7, b, c)),
		"a && b && c":  of(api.EAnd, 2, a, of(api.EAnd, 7, b, c)),
		"a || b || c":  of(api.EOr, 2, a, of(api.EOr, 7, b, c)),
		"a || b && c":  of(api.EOr, 2, a, of(api.EAnd, 7, b, c)),
		"a && b || c":  of(api.EOr, 7, of(api.EAnd, 2, a, b), c),
		"a == b && c":  of(api.EAnd, 7, op("==", 2, a, b), c),
		"a == b  ^ c":  op("==", 2, a, op("^", 8, b, c)),
		"a <> b  - c":  op("-", 8, op("<>", 2, a, b), c),
		"a  - b ?? c":  op("-", 3, a, op("??", 7, b, c)),
		"a && b := c":  op(":=", 7, of(api.EAnd, 2, a, b), c),
		"a := b || c":  op(":=", 2, a, of(api.EOr, 7, b, c)),
		"a  +(b  + c)": op("+", 3, a, op("+", 8, b, c)),
	} {
		comes(t, Exp, src, want)
	}
	// An operator in brackets is a variable, also && and ||.
	comes(t, Exp, "(&&) a b", app(0, app(0, v("&&", 0), v("a", 5)), v("b", 7)))
	comes(t, Exp, "f x + (-) * 1", op("+", 4, app(0, v("f", 0), v("x", 2)), op("*", 10, v("-", 6), num(1, 12))))
	// An open operand takes all that follows.
	comes(t, Exp, `a == \x -> b == c`, op("==", 2, v("a", 0), lam("x", 5, op("==", 13, v("b", 11), v("c", 16)))))
	comes(t, Exp, "a * let x = 1 in b + c", op("*", 2, v("a", 0), let(0, 4, op("+", 19, v("b", 17), v("c", 21)), bind("x", 8, num(1, 12)))))
	comes(t, Exp, "a + if b then c else d + e", op("+", 2, v("a", 0), of(api.EIf, 4, v("b", 7), v("c", 14), op("+", 23, v("d", 21), v("e", 25)))))
	comes(t, Exp, "case a of b -> c end + d", op("+", 21, cases(0, v("a", 5), alt(pvar("b", 10), v("c", 15))), v("d", 23)))
}

// P6.2: patterns, with their places.
func TestPatterns(t *testing.T) {
	for src, want := range map[string]api.Pat{
		"x": pvar("x", 10), "_": wild(10), "A": pcon("A", 10), "( )": pcon("Unit", 10), "03": pint(3, 10), "4611686018427387903": pint(api.MaxInt, 10),
		"(x)": pvar("x", 11), "((_))": wild(12), "(())": pcon("Unit", 11), " (A)": pcon("A", 12),
		"Cons x _":           pcon("Cons", 10, pvar("x", 15), wild(17)),
		"C 1 () D (E x) (y)": pcon("C", 10, pint(1, 12), pcon("Unit", 14), pcon("D", 17), pcon("E", 20, pvar("x", 22)), pvar("y", 26)),
		"(C (D (x)))":        pcon("C", 11, pcon("D", 14, pvar("x", 17))),
	} {
		comes(t, Exp, "case x of "+src+" -> 1 end", cases(0, v("x", 5), alt(want, num(1, 10+len(src)+4))))
	}
}

// P6.2
func TestType(t *testing.T) {
	a, b, c := tv("a"), tv("b"), tv("c")
	for src, want := range map[string]api.Type{
		"a": a, "Int": tc("Int"), "()": tc("Unit"), "Unit": tc("Unit"), "(a)": a, "((Int))": tc("Int"), "# c\n a'": tv("a'"),
		"List a": tc("List", a), "Pair a Int": tc("Pair", a, tc("Int")), "T () (List a) B (a) b": tc("T", tc("Unit"), tc("List", a), tc("B"), a, b),
		"a -> b": fun(a, b), "a->b->c": fun(a, fun(b, c)), "(a -> b) -> c": fun(fun(a, b), c), "a -> (b -> c)": fun(a, fun(b, c)),
		"List a -> Maybe (a -> b) -> ()": fun(tc("List", a), fun(tc("Maybe", fun(a, b)), tc("Unit"))),
		"(List a)":                       tc("List", a),
		"Int -> ((a -> b))":              fun(tc("Int"), fun(a, b)),
	} {
		comes(t, Type, src, want)
	}
}

// P6.1: every kind of declaration, with its places, each kind in order.
func TestProg(t *testing.T) {
	for src, want := range map[string]api.Prog{
		"": {}, " # only blanks": {},
		"def x = 1;":             {Binds: []api.Bind{bind("x", 4, num(1, 8))}},
		"def ( := )=x;def y=z ;": {Binds: []api.Bind{bind(":=", 4, v("x", 11)), bind("y", 17, v("z", 19))}},
		"data T = A;":            {Datas: []api.Data{{Name: "T", Cons: []api.Con{{Name: "A", At: 9}}, At: 5}}},
		"data L a b = N | C a (L a) () Int | D (a -> b) deriving ( Eq,Ord );": {Datas: []api.Data{{Name: "L", Params: []string{"a", "b"}, At: 5, Deriv: []string{"Eq", "Ord"}, Cons: []api.Con{
			{Name: "N", At: 13}, {Name: "C", Args: []api.Type{tv("a"), tc("L", tv("a")), tc("Unit"), tc("Int")}, At: 17}, {Name: "D", Args: []api.Type{fun(tv("a"), tv("b"))}, At: 36}}}}},
		"data T a=A a deriving(Q);":     {Datas: []api.Data{{Name: "T", Params: []string{"a"}, Cons: []api.Con{{Name: "A", Args: []api.Type{tv("a")}, At: 9}}, Deriv: []string{"Q"}, At: 5}}},
		"class Q a where end;":          {Classes: []api.Class{{Name: "Q", Var: "a", At: 6}}},
		" class Q a from R where end ;": {Classes: []api.Class{{Name: "Q", Var: "a", Supers: []string{"R"}, At: 7}}},
		"class Q a from R , S where q : a -> (a); def q = \\x -> x; ( + ) : a; def (+) = 1; r : Q a; end;": {Classes: []api.Class{{Name: "Q", Var: "a", Supers: []string{"R", "S"}, At: 6,
			Methods:  []api.Method{{Name: "q", T: fun(tv("a"), tv("a")), At: 27}, {Name: "+", T: tv("a"), At: 58}, {Name: "r", T: tc("Q", tv("a")), At: 82}},
			Defaults: []api.Bind{bind("q", 45, lam("x", 49, v("x", 55))), bind("+", 73, num(1, 79))}}}},
		"instance Q Int where end;":            {Insts: []api.Inst{{Class: "Q", Head: tc("Int"), At: 9}}},
		"instance Q a where end;":              {Insts: []api.Inst{{Class: "Q", Head: tv("a"), At: 9}}},
		"instance Q () where end;":             {Insts: []api.Inst{{Class: "Q", Head: tc("Unit"), At: 9}}},
		"instance Q (a -> b) where end;":       {Insts: []api.Inst{{Class: "Q", Head: fun(tv("a"), tv("b")), At: 9}}},
		"instance Q (L a) from R b where end;": {Insts: []api.Inst{{Class: "Q", Head: tc("L", tv("a")), Ctx: []api.Pred{{Class: "R", T: tv("b")}}, At: 9}}},
		"instance Q ((P a)) from R a,S b , R a where def (<) = 1 ; def q = x + 1; end;": {Insts: []api.Inst{{Class: "Q", Head: tc("P", tv("a")), At: 9,
			Ctx: []api.Pred{{Class: "R", T: tv("a")}, {Class: "S", T: tv("b")}, {Class: "R", T: tv("a")}}, Binds: []api.Bind{bind("<", 48, num(1, 54)), bind("q", 62, op("+", 68, v("x", 66), num(1, 70)))}}}},
		"def b=1;class B b where end;data B=B;instance B B where end;def a=2;class A a where end;data A=A;instance A A where end;": {
			Datas:   []api.Data{{Name: "B", Cons: []api.Con{{Name: "B", At: 35}}, At: 33}, {Name: "A", Cons: []api.Con{{Name: "A", At: 95}}, At: 93}},
			Classes: []api.Class{{Name: "B", Var: "b", At: 14}, {Name: "A", Var: "a", At: 74}},
			Insts:   []api.Inst{{Class: "B", Head: tc("B"), At: 46}, {Class: "A", Head: tc("A"), At: 106}},
			Binds:   []api.Bind{bind("b", 4, num(1, 6)), bind("a", 64, num(2, 66))},
		},
	} {
		comes(t, Prog, src, want)
	}
}

// P6.1 and P6.2: the Diag of layer 3 comes first.
func TestErrorsOfTokens(t *testing.T) {
	long := strings.Repeat("x", api.MaxName+1)
	for _, c := range []struct {
		src  string
		code api.Errno
		at   int
	}{
		{") [", api.ErrByte, 2}, {"a == b == c \"", api.ErrText, 12}, {"; \"\\q\"", api.ErrText, 2}, {") 4611686018427387904", api.ErrInt, 2}, {") " + long, api.ErrLong, 2}, {") [ \xff", api.ErrUtf, 4},
		{strings.Repeat("(", api.MaxDeep+1) + "}", api.ErrByte, api.MaxDeep + 1}, {strings.Repeat(")", api.MaxSource+1), api.ErrLimit, 0},
	} {
		fails(t, Prog, c.src, c.code, c.at)
		fails(t, Exp, c.src, c.code, c.at)
		fails(t, Type, c.src, c.code, c.at)
	}
}

// P6.2: ErrSyntax at the first token that is not allowed, or at the end.
func TestSyntaxOfExps(t *testing.T) {
	for src, at := range map[string]int{
		"": 0, " # c": 4, ")": 0, "a )": 2, "(a": 2, "(": 1, "( ": 2, "(a b": 4, "(a : b": 6, "(a : ": 5, "(a :)": 4, "(a : Int : Int)": 9, "a : b": 2, "(a = b)": 3, "(+ a)": 3, "(a +)": 4, "(+ +)": 3, "(,)": 1, "(a, b)": 2,
		"+": 0, "+ a": 0, "a +": 3, "a + + b": 4, "f x + g (-) * -1": 14, "a ; b": 2, "_": 0, "f _": 2, "a = b": 2, "a -> b": 2, "a | b": 2, "data": 0, "f def": 2, "where": 0, "rec": 0, "end": 0,
		"\\x -> ": 6, "\\": 1, "\\ -> x": 2, "\\X -> x": 1, "\\_ -> x": 1, "\\(x) -> x": 1, "\\x (y) -> x": 3, "\\x = x": 3, "\\x X -> x": 3, "\\x, y -> x": 2, "\\x -> y -> z": 8,
		"f \\x -> x": 2, "f let x = 1 in x": 2, "f if a then b else c": 2, "a + \\x": 6,
		"let": 3, "let in x": 4, "let x": 5, "let x = in y": 8, "let x = 1": 9, "let x = 1 y = 2 in x": 12, "let x = 1 in": 12, "let x = 1 and in x": 14, "let X = 1 in x": 4, "let (x) = 1 in x": 5, "let () = 1 in x": 5, "let (+ = 1 in x": 7,
		"let x y = 1 in x": 6, "let rec rec x = 1 in x": 8, "let + = 1 in x": 4, "let x : Int = 1 in x": 6, "let x = 1; in x": 9, "let x = 1 and rec y = 2 in x": 14, "rec x = 1": 0, "x and y": 2, "a in b": 2,
		"if": 2, "if a": 4, "if a then": 9, "if a then b": 11, "if a then b c": 13, "if a else b": 5, "if then": 3, "if a then b else": 16, "if a then b else c else d": 19, "then": 0,
		"case": 4, "case x": 6, "case x of": 9, "case x of end": 10, "case x of | A -> 1 end": 10, "case x of A -> 1": 16, "case x of A": 11, "case x of A 1": 13, "case x of A -> end": 15, "case x of A -> 1 | end": 19, "case x of A -> 1 B -> 2 end": 19,
		"case x of \"a\" -> 1 end": 10, "case x of + -> 1 end": 10, "case x of x y -> 1 end": 12, "case x of 1 2 -> 3 end": 12, "case x of (A) x -> 1 end": 14, "case x of ( -> 1 end": 12, "case x of (A -> 1 end": 13, "case x of (+) -> 1 end": 11, "case x of -1 -> 1 end": 10,
		"case x of A (B x -> 1 end": 17, "case x of A = 1 end": 12, "case x of A :: B -> 1 end": 12, "case x of (x : Int) -> 1 end": 13, "case x of A | B -> 1 end": 12, "case of A -> 1 end": 5, "case x of A -> 1 end end": 21, "case x of _ _ -> 1 end": 12,
	} {
		fails(t, Exp, src, api.ErrSyntax, at)
	}
}

// P6.2
func TestSyntaxOfTypes(t *testing.T) {
	for src, at := range map[string]int{
		"": 0, "#": 1, ")": 0, "(": 1, "(a": 2, "(a b)": 3, "a b": 2, "a Int": 2, "(List) a": 7, "() a": 3, "(a -> b) c": 9, "->": 0, "a ->": 4, "a -> -> b": 5, "-> a": 0, "1": 0, "List 1": 5, "\"a\"": 0, "_": 0, "List _": 5, "a, b": 1, "(a, b)": 2, "a => b": 2,
		"a + b": 2, "(->)": 1, "(+)": 1, "List -> ": 8, "a )": 2, "a : b": 2, "List a;": 6, "List (": 6, "List ( a": 8, "List ( -> a)": 7, "end": 0, "a where": 2, "\\a -> b": 0,
	} {
		fails(t, Type, src, api.ErrSyntax, at)
	}
}

// P6.1
func TestSyntaxOfProgs(t *testing.T) {
	for src, at := range map[string]int{
		"x": 0, ";": 0, "def x = 1;;": 10, "(": 0, "x = 1;": 0, "let x = 1;": 0, "and": 0, "1": 0, "type T = Int;": 0, "def x = 1; y": 11, "def x = 1; def": 14,
		"def": 3, "def x": 5, "def x =": 7, "def x = 1": 9, "def x = 1 def y = 2;": 10, "def = 1;": 4, "def X = 1;": 4, "def x y = 1;": 6, "def rec x = 1;": 4, "def () = 1;": 5, "def (x) = 1;": 5, "def (+ = 1;": 7, "def + = 1;": 4, "def x : Int = 1;": 6, "def x == 1;": 6,
		"def x = ;": 8, "def x = 1);": 9, "def x = 1 : Int;": 10, "def _ = 1;": 4, "def (=) = 1;": 5, "def (->) = 1;": 5, "def x = 1 and y = 2;": 10,
		"data": 4, "data t = A;": 5, "data T": 6, "data T;": 6, "data T A = B;": 7, "data T (a) = A;": 7, "data T a": 8, "data T =": 8, "data T = ;": 9, "data T = a;": 9, "data T = | A;": 9, "data T = A |;": 12, "data T = A": 10, "data T = A B;;": 13, "data T = A 1;": 11,
		"data T = A a -> b;": 13, "data T = A (a;": 13, "data T = A (+);": 12, "data T = A List a | b;": 20, "data T = A || B;": 11, "data T = A = B;": 11, "data T = A, B;": 10, "data T = (A);": 9,
		"data T = A deriving;": 19, "data T = A deriving Eq;": 20, "data T = A deriving ();": 21, "data T = A deriving (eq);": 21, "data T = A deriving (Eq;": 23, "data T = A deriving (Eq,);": 24, "data T = A deriving (Eq Ord);": 24, "data T = A deriving (Eq) | B;": 25, "data T = A deriving (Eq)": 24, "data T deriving (Eq);": 7,
		"class": 5, "class q a where end;": 6, "class Q": 7, "class Q A where end;": 8, "class Q where end;": 8, "class Q a b where end;": 10, "class Q a": 9, "class Q a end;": 10, "class Q a from where end;": 15, "class Q a from r where end;": 15, "class Q a from R S where end;": 17, "class Q a from R, where end;": 18, "class Q a from R": 16,
		"class Q a from R a where end;": 17, "class Q a where": 15, "class Q a where end": 19, "class Q a where ; end;": 16, "class Q a where q; end;": 17, "class Q a where q : ; end;": 20, "class Q a where q : a end;": 22, "class Q a where q = 1; end;": 18, "class Q a where Q : a; end;": 16, "class Q a where q, r : a; end;": 17,
		"class Q a where def q; end;": 21, "class Q a where def q = 1 end;": 26, "class Q a where def q : a; end;": 22, "class Q a where (q) : a; end;": 17, "class Q a where data T = A; end;": 16, "class Q a where q : a; ": 23, "class Q (L a) where end;": 8, "class Q a where 1": 16,
		"instance": 8, "instance q Int where end;": 9, "instance Q": 10, "instance Q where end;": 11, "instance Q L a where end;": 13, "instance Q Int": 14, "instance Q 1 where end;": 11, "instance Q (L a where end;": 16, "instance Q Int from where end;": 20, "instance Q Int from R where end;": 22, "instance Q Int from R Int where end;": 22,
		"instance Q Int from R (a) where end;": 22, "instance Q Int from R a S b where end;": 24, "instance Q Int from R a, where end;": 25, "instance Q Int from r a where end;": 20, "instance Q Int where q = 1; end;": 21, "instance Q Int where def q = 1 end;": 31, "instance Q Int where def q = 1;": 31, "instance Q Int where q : Int; end;": 21, "instance Q Int where end": 24,
		"instance Q Int where end end;": 25, "instance Q Int where instance": 21, "instance Q a -> b where end;": 13, "instance from R a Q Int where end;": 9,
	} {
		fails(t, Prog, src, api.ErrSyntax, at)
	}
}

// P6.1 and P6.2: ErrOps at the operator that clashes, once the last operand has been read.
func TestClashes(t *testing.T) {
	for _, c := range []struct {
		src  string
		code api.Errno
		at   int
	}{
		{"a == b == c", api.ErrOps, 7}, {"a < b + c >= d", api.ErrOps, 10}, {"a == b && c == d == e", api.ErrOps, 17}, {"f a /= g (h b) < c", api.ErrOps, 15}, {"(==) <= (==) <= (==)", api.ErrOps, 13}, {"a == b == c == d", api.ErrOps, 7},
		// Within an operand it comes before all that stands behind that one.
		{"a == (b < c < d) == e", api.ErrOps, 12}, {"a == b == (c < d < e)", api.ErrOps, 17}, {"(a == b == c) + )", api.ErrOps, 8}, {"a == b == \\x -> c < d < e", api.ErrOps, 22}, {"a == \\x -> b == c == d", api.ErrOps, 18}, {"(a < b < c : 1)", api.ErrOps, 7},
		{"if a < b < c then", api.ErrOps, 9}, {"let x = a < b < c in", api.ErrOps, 14}, {"case a < b < c of", api.ErrOps, 11}, {"case a of b -> c < d < e", api.ErrOps, 21},
		// A token that cannot stand behind the last operand comes after the clash, one that cannot stand within it before.
		{"a == b == c )", api.ErrOps, 7}, {"a == b == c \\", api.ErrOps, 7}, {"(a == b == c", api.ErrOps, 8}, {"a == b == c = d", api.ErrOps, 7}, {"a == b == ", api.ErrSyntax, 10}, {"a == b == )", api.ErrSyntax, 10}, {"a == b == c + ;", api.ErrSyntax, 14}, {"a == b == f (c", api.ErrSyntax, 14}, {"a == b == \\x", api.ErrSyntax, 12},
		{"a == b == " + strings.Repeat("(", api.MaxDeep) + "c", api.ErrDeep, 10 + api.MaxDeep},
	} {
		fails(t, Exp, c.src, c.code, c.at)
		for _, before := range []string{"def x = ", "def y = \"\"; class Q a where def x = ", "instance Q Int where def (+) = "} {
			fails(t, Prog, before+c.src, c.code, len(before)+c.at)
		}
	}
	for _, src := range []string{"a == b && c == d", "a == (b == c)", "(a == b) == c", "a == \\x -> b == c", "a == b := c == d || e < f", "(a == b : Bool) == c"} {
		if _, d := Exp(src); d != (api.Diag{}) {
			t.Errorf("%q: %v", src, d)
		}
	}
}
