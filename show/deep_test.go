package show

import (
	"math/rand"
	"slices"
	"sort"
	"strings"
	"testing"

	"cognate/api"
	"cognate/parse"
	"cognate/tree"
)

// layer puts O into something bigger, which is no atom: as it is usually written, and in the form with fewer levels.
type layer struct{ usual, shallow string }

var layers = []layer{
	{"\\ x -> O", ""}, {"if O then a else b", ""}, {"if a then O else b", ""}, {"if a then b else O", ""}, {"let x = O in y", ""}, {"let x = y in O", ""}, {"let rec x = y and ( + ) = O in z", ""},
	{"f ( O )", ""}, {"f x ( O ) y", ""}, {"f case O of _ -> x end", ""}, {"f case x of A -> y | B -> O end z", ""}, {"f ( O : a )", ""}, {"case O of _ -> f end x", ""}, {"( O : a ) x", ""},
	{"a + \\ x -> O", ""}, {"a + f ( O )", ""}, {"a - ( \\ x -> O ) - b", ""}, {"( if a then O else b ) || c", ""}, {"a * b + case O of _ -> x end", ""}, {"( + ) ( O )", ""}, {"f ( + ) ( O )", ""}, {"( && ) a ( O )", ""},
	// An operand that needs brackets, but is no EApp.
	{"( a && f ( O ) ) * b", ""}, {"a * ( b || case O of _ -> x end )", ""}, {"( a || b ) && \\ x -> O", ""}, {"( == ) ( a && ( O : b ) ) c x", ""},
	// As functions and arguments, infix applications are always written in the same way.
	{"( + ) a ( O ) b", ""}, {"( + ) a case O of _ -> x end b", ""}, {"f ( a + \\ x -> O )", ""}, {"f ( a + b ) ( O )", ""},
	// An operand that needs brackets.
	{"a * ( b + \\ x -> O )", "a * ( + ) b ( \\ x -> O )"}, {"a * ( b + case O of _ -> x end )", "a * ( + ) b case O of _ -> x end"}, {"( a + ( O : t ) ) * b", "( + ) a ( O : t ) * b"}, {"a + ( b - f ( O ) )", "a + ( - ) b ( f ( O ) )"}, {"( a :: b ) :: f ( O )", "( :: ) a b :: f ( O )"},
	{"( a == b ) == case O of _ -> x end", "( == ) a b == case O of _ -> x end"}, {"a := b || ( c := case O of _ -> x end )", "a := b || ( := ) c case O of _ -> x end"}, {"a && ( b := ( O : t ) )", "a && ( := ) b ( O : t )"}, {"( a + b ) * f ( O ) - ( c - d )", "( + ) a b * f ( O ) - ( - ) c d"},
	{"a - ( b - c ) - if O then d else e", "a - ( - ) b c - if O then d else e"}, {"a * ( ( if O then b else c ) + d )", "a * ( + ) ( if O then b else c ) d"},
	// What it contains is no operand then.
	{"a * ( b + c * ( d + case O of _ -> x end ) )", "a * ( + ) b ( c * ( + ) d case O of _ -> x end )"}, {"a - ( b - ( c - case O of _ -> x end ) )", "a - ( - ) b ( c - case O of _ -> x end )"}, {"a - ( b - ( c - ( d - f ( O ) ) ) )", "a - ( - ) b ( c - ( - ) d ( f ( O ) ) )"},
	{"( a + b + f ( O ) ) * c", "( + ) ( a + b ) ( f ( O ) ) * c"}, {"f ( a * ( b + ( O : t ) ) ) x", "f ( a * ( + ) b ( O : t ) ) x"}, {"( + ) ( a * ( b + c ) ) case O of _ -> x end y", "( + ) ( a * ( + ) b c ) case O of _ -> x end y"}, {"( + ) a b c * ( d + f ( O ) )", "( + ) a b c * ( + ) d ( f ( O ) )"},
}

// forms returns both forms of a layer.
func (l layer) forms() (usual, shallow string) {
	if l.shallow == "" {
		return l.usual, l.usual
	}
	return l.usual, l.shallow
}

// filled returns e with another expression in the place of the constructor O.
func filled(e, with api.Exp) api.Exp {
	if e.Kind == api.ECon && e.Name == "O" {
		return with
	}
	e.Kids, e.Binds, e.Alts = slices.Clone(e.Kids), slices.Clone(e.Binds), slices.Clone(e.Alts)
	for i := range e.Kids {
		e.Kids[i] = filled(e.Kids[i], with)
	}
	for i := range e.Binds {
		e.Binds[i].E = filled(e.Binds[i].E, with)
	}
	for i := range e.Alts {
		e.Alts[i].E = filled(e.Alts[i].E, with)
	}
	return e
}

// nest is layers within each other: both forms, and the expression.
type nest struct {
	usual, shallow string
	e              api.Exp
}

// innermost makes what stands within all layers, some of it of levels of types or patterns.
func innermost(t *testing.T, r *rand.Rand) nest {
	text := "x + y"
	n := r.Intn(20)
	deep := strings.Repeat("A ( ", n) + "A a" + strings.Repeat(" )", n)
	switch r.Intn(4) {
	case 0:
		text = "f ( x : " + deep + " )"
	case 1:
		text = "f ( x : " + strings.Repeat("a -> ", n) + "a )"
	case 2:
		text = "case x of " + deep + " -> y end z"
	}
	return nest{text, text, parsed(t, text)}
}

// within puts a nest into a layer.
func within(t *testing.T, l layer, inner nest) nest {
	usual, shallow := l.forms()
	put := func(text, inner string) string { return strings.Replace(text, "O", inner, 1) }
	return nest{put(usual, inner.usual), put(shallow, inner.shallow), filled(parsed(t, usual), inner.e)}
}

func tooDeep(d api.Diag) bool { return d.Code == api.ErrDeep }

// check checks the text of a nest: it is the usual one, unless that is too deep to be read.
func (n nest) check(t *testing.T) {
	t.Helper()
	want := n.usual
	_, d := parse.Exp(n.usual)
	if tooDeep(d) {
		want = n.shallow
	}
	if got := Exp(n.e); got != want {
		t.Fatalf("usual %v:\ngot  %q\nwant %q", d, got, want)
	}
	again, d2 := parse.Exp(want)
	if !tooDeep(d2) && (d2 != (api.Diag{}) || !tree.Same(again, n.e)) {
		t.Fatalf("%q is read as something else: %v", want, d2)
	}
}

// P7.1: each layer alone is written as usual.
func TestLayers(t *testing.T) {
	for _, l := range layers {
		usual, shallow := l.forms()
		if e, d := parse.Exp(shallow); d != (api.Diag{}) || !tree.Same(e, parsed(t, usual)) {
			t.Errorf("%q isn't %q: %v", shallow, usual, d)
		}
		if n := within(t, l, nest{"x + y", "x + y", parsed(t, "x + y")}); Exp(n.e) != n.usual {
			t.Errorf("%q: %q", n.usual, Exp(n.e))
		}
	}
}

// grown returns the nests that begin with one, each in a layer more, up to one of which both forms are too deep.
func grown(t *testing.T, n nest, next func() layer) []nest {
	var l []nest
	for range api.MaxDeep {
		l = append(l, n)
		n = within(t, next(), n)
	}
	return l
}

// isTooDeep reports whether a text is too deep to be read.
func isTooDeep(src string) bool {
	_, d := parse.Exp(src)
	return tooDeep(d)
}

// checkEnds checks nests that grow: around the last one of which the usual form isn't too deep, and the last one of which the other isn't. It returns how many are between.
func checkEnds(t *testing.T, l []nest) int {
	t.Helper()
	usual := sort.Search(len(l), func(i int) bool { return isTooDeep(l[i].usual) })
	shallow := sort.Search(len(l), func(i int) bool { return isTooDeep(l[i].shallow) })
	for _, i := range []int{usual / 2, usual - 2, usual - 1, usual, usual + 1, (usual + shallow) / 2, shallow - 1, shallow, shallow + 1} {
		if i >= 0 && i < len(l) {
			l[i].check(t)
		}
	}
	return shallow - usual
}

// P7.1: each layer again and again.
func TestLayersAgain(t *testing.T) {
	for _, l := range layers {
		checkEnds(t, grown(t, nest{"x + y", "x + y", parsed(t, "x + y")}, func() layer { return l }))
	}
}

// P7.1: arbitrary layers.
func TestArbitraryLayers(t *testing.T) {
	between := 0
	for seed := range int64(150) {
		r := rand.New(rand.NewSource(seed))
		between += checkEnds(t, grown(t, innermost(t, r), func() layer { return layers[r.Intn(len(layers))] }))
	}
	if between < 1000 {
		t.Errorf("only %d between", between)
	}
}

// P7.1: levels are those of exps, types and patterns.
func TestLevels(t *testing.T) {
	for _, c := range []struct{ before, open, inner, close, after string }{
		{"( x : ", "A ( ", "A a", " )", " )"}, {"( x : ", "a -> ", "a", "", " )"}, {"( x : ", "( ", "a -> a", " ) -> a", " )"}, {"case x of ", "C ( ", "C x", " )", " -> y end"}, {"case x of A -> B | ", "C ( ", "C x", " )", " -> y end"},
		{"case ", "f ( ", "f x", " )", " of _ -> y end"}, {"case x of _ -> ", "\\ x -> ", "x", "", " end"}, {"( ", "f ( ", "f x", " )", " : a )"}, {"case x of _ -> ", "a && ( b || ", "x", " )", " end"},
	} {
		plain, deep := 0, 0
		for n := api.MaxDeep - 9; n < api.MaxDeep+2; n++ {
			inside := c.before + strings.Repeat(c.open, n) + c.inner + strings.Repeat(c.close, n) + c.after
			usual, shallow := "a * ( b + "+inside+" )", "a * ( + ) b "+inside
			if e, d := parse.Exp(shallow); d == (api.Diag{}) {
				nest{usual, shallow, e}.check(t)
				plain++
				if isTooDeep(usual) {
					deep++
				}
			}
		}
		// The usual form has one level more.
		if plain < 3 || deep != 1 {
			t.Errorf("%q: %d, of which %d are too deep as usual", c.open, plain, deep)
		}
	}
}

// P7.1: each expression that stands in no other one has the form that it has alone, whatever stands beside it.
func TestDeepBeside(t *testing.T) {
	n := api.MaxDeep - 1
	inside := func(text string) string { return strings.Repeat("\\ x -> ", n) + text }
	deepUsual, deepShallow := inside("a * ( b + c )"), inside("a * ( + ) b c")
	flat := "a * ( b + c )"
	if !isTooDeep(deepUsual) || isTooDeep(deepShallow) {
		t.Fatal("not around MaxDeep")
	}
	put := func(text, deep string) string {
		return strings.NewReplacer("D", deep, "F", flat).Replace(text)
	}
	for _, text := range []string{
		"def x = F ;\ndef x = D ;\ndef x = F ;\n", "def x = D ;\ndef y = D ;\n", "class Q a where def x = F ; def y = D ; def z = F ; end ;\ndef x = F ;\n", "instance Q a where def x = F ; def y = D ; def z = F ; end ;\ndef x = F ;\n",
		"class Q a where q : " + strings.Repeat("a -> ", n) + "a ; def x = F ; end ;\ninstance Q " + strings.Repeat("( A ", n) + "( A a )" + strings.Repeat(" )", n) + " where def x = F ; end ;\n",
		"data T = A " + strings.Repeat("( A ", n) + "( A a )" + strings.Repeat(" )", n) + " ;\ndef x = F ;\n",
	} {
		p, d := parse.Prog(put(text, deepShallow))
		if got := Prog(p); d != (api.Diag{}) || got != put(text, deepShallow) {
			t.Errorf("%v:\ngot  %q\nwant %q", d, got, put(text, deepShallow))
		}
	}
	// Within one, what is too deep decides for all of it.
	whole := "if a * ( + ) b c then " + strings.Repeat("\\ x -> ", n-1) + "a * ( + ) b c else ( + ) a b * c"
	if got := Exp(parsed(t, whole)); got != whole {
		t.Errorf("got  %q\nwant %q", got, whole)
	}
}

// styles are ways of writing sources, other ones than the texts: O is an exp. None of them has a function of several names.
var styles = []string{
	"( O )", "(O)", "f (O)", "(O) x", "f x (O) y", "\\x -> O", "if O then a else b", "if a then O else b", "if a then b else O", "let x = O in y", "let rec (+) = x and y = O in z", "let x = y in O", "case O of _ -> x end", "case x of A (B y) -> O | _ -> z end", "(O : a)", "f case O of _ -> x end y",
	"(O) + a", "a * (O)", "a - (O) - b", "a :: (O) :: b", "(a && (O)) || b", "(O) && (a || b)", "a := (O)", "((O) == a) == b", "a + \\x -> O", "a * if b then c else O", "(a && \\x -> O) * b", "(a + \\x -> O) b", "(a * let x = y in O) - c",
	"(+) a (O)", "(*) (O) a", "x + (+) a (O)", "x * (+) (O) a", "(-) a b * (-) c (O)", "(-) a b * (-) (O) c", "x - (-) a (x - (-) a (O))", "(&&) a (O)", "x && (||) a (O)", "(+) a (O) b", "((+) a) (O)", "(((+) a (O))) x", "((+)) (O) a", "x * (+) a case O of _ -> y end", "x * ((+) a (O : t)) * y", "(==) a b == (==) c (O)", "(+) (\\x -> O) a", "x * (+) a (\\x -> O)", "x * (+) (a + b) (c * (+) d (O))",
}

// P7.2: what is parsed, printed and parsed again is the same, also where the source is as deep as it can be.
func TestPrintedAgain(t *testing.T) {
	for seed := range int64(250) {
		r := rand.New(rand.NewSource(seed))
		only := styles
		if seed < int64(len(styles)) {
			only = styles[seed : seed+1]
		}
		sources := []string{"x"}
		for i := range api.MaxDeep {
			sources = append(sources, strings.Replace(only[r.Intn(len(only))], "O", sources[i], 1))
		}
		src := sources[sort.Search(len(sources), func(i int) bool { return isTooDeep(sources[i]) })-1]
		e := parsed(t, src)
		text := Exp(e)
		again, d := parse.Exp(text)
		if d != (api.Diag{}) || !tree.Same(again, e) {
			t.Fatalf("%q is printed as %q: %v", src, text, d)
		}
		if next := Exp(again); next != text {
			t.Fatalf("%q is printed as %q, then as %q", src, text, next)
		}
		prog := "class Q a where def x = " + src + "; end; instance Q a where def x = " + src + "; end; def x = " + src + ";"
		p, d := parse.Prog(prog)
		text = Prog(p)
		againProg, d2 := parse.Prog(text)
		if d != (api.Diag{}) || d2 != (api.Diag{}) || !tree.SameProg(againProg, p) {
			t.Fatalf("%q is printed as %q: %v, %v", prog, text, d, d2)
		}
	}
}

// P7.2: a function of several names has one level in the source, and one for each name in the text.
func TestSeveralNames(t *testing.T) {
	for _, names := range []int{api.MaxDeep - 1, api.MaxDeep} {
		e := parsed(t, "\\"+strings.Repeat("x ", names)+"-> x")
		text := Exp(e)
		if want := strings.Repeat("\\ x -> ", names) + "x"; text != want || isTooDeep(text) != (names == api.MaxDeep) {
			t.Errorf("%d names: %q", names, text)
		}
	}
}

// P7.1: well-formed at any depth and of any length, as far as the bound goes.
func TestLargeOnes(t *testing.T) {
	const n = 1 << 16
	left, right, args, inner, lams, lets := v("x"), v("x"), v("f"), v("x"), v("x"), v("x")
	ty, arrows, p := tc("A"), tv("a"), pcon("A")
	for i := range n {
		// A level of an operator is two of the tree.
		if i%2 == 0 {
			left, right = op("+", left, v("y")), op("+", v("y"), right)
		}
		args, inner = app(args, v("x")), app(v("f"), inner)
		lams = api.Exp{Kind: api.ELam, Name: "x", Kids: []api.Exp{lams}}
		lets = api.Exp{Kind: api.ELet, Binds: []api.Bind{{Name: "x", E: lets}}, Kids: []api.Exp{v("x")}}
		ty, arrows, p = tc("A", ty), tc("->", arrows, tv("a")), pcon("A", p)
	}
	repeat := func(s string) string { return strings.Repeat(s, n-1) }
	half := func(s string) string { return strings.Repeat(s, n/2) }
	quarter := func(s string) string { return strings.Repeat(s, n/4) }
	for i, c := range [][2]string{
		{Exp(left), "x" + half(" + y")}, {Exp(right), strings.TrimSuffix(quarter("y + ( + ) y ( "), "( ") + "x" + strings.Repeat(" )", n/4-1)}, {Exp(args), "f" + repeat(" x") + " x"}, {Exp(inner), repeat("f ( ") + "f x" + repeat(" )")},
		{Exp(lams), repeat("\\ x -> ") + "\\ x -> x"}, {Exp(lets), repeat("let x = ") + "let x = x in x" + repeat(" in x")}, {Type(ty), repeat("A ( ") + "A A" + repeat(" )")}, {Type(arrows), repeat("( ") + "a -> a" + repeat(" ) -> a")}, {Pat(p), repeat("A ( ") + "A A" + repeat(" )")},
	} {
		if c[0] != c[1] {
			t.Errorf("%d: %.100q .. %d, want %.100q .. %d", i, c[0], len(c[0]), c[1], len(c[1]))
		}
	}
	wide := api.Prog{Binds: slices.Repeat([]api.Bind{{Name: "x", E: api.Exp{Kind: api.EStr, Name: strings.Repeat("\n", 100)}}}, 20000)}
	if got := Prog(wide); got != strings.Repeat("def x = \""+strings.Repeat("\\n", 100)+"\" ;\n", 20000) {
		t.Errorf("a program longer than a source: %d", len(got))
	}
	if right.Kids[1].Kids[1].Kids[0].Kids[0].Kids = make([]api.Exp, 1); Right(right) || Exp(right) != "" {
		t.Error("a wrong part deep inside")
	}
}
