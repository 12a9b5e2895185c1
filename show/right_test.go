package show

import (
	"math"
	"reflect"
	"slices"
	"strings"
	"testing"

	"cognate/api"
)

// names are Names with the letters of what they are: L a Low, U an Up, O an operator, S a string, E nothing.
var names = map[string]string{
	"": "ES", "x": "LS", "_x'1": "LS", "X": "US", "Unit": "US", "X'_1x": "US", "+": "OS", "&&": "OS", "||": "OS", "::": "OS", ":=": "OS", "--": "OS",
	strings.Repeat("x", api.MaxName): "LS", strings.Repeat("X", api.MaxName): "US", strings.Repeat("+", api.MaxName): "OS",
	strings.Repeat("x", api.MaxName+1): "S", strings.Repeat("X", api.MaxName+1): "S", strings.Repeat("+", api.MaxName+1): "S",
	"_": "S", "->": "S", "=": "S", "|": "S", ":": "S", "(": "S", ")": "S", ";": "S", "( )": "S", "let": "S", "end": "S", "rec": "S", " x": "S", "x ": "S", "x y": "S", "1": "S", "'0": "S", "é": "S", "xé": "S", "a\n\t\"\\\x00\r": "S", "\ufffd": "S",
	"\xff": "", "x\xff": "", "+\x80": "", "\xed\xa0\x80": "", "\xc0\x80": "", "\xf4\x90\x80\x80": "", "a\xe2\x82": "",
}

// numbers are Ns with the letters of what they are: Z zero, F a flag, N a number that can be written.
var numbers = map[int64]string{0: "ZFN", 1: "FN", 2: "N", api.MaxInt: "N", api.MaxInt + 1: "", -1: "", api.MinInt: "", math.MaxInt64: "", math.MinInt64: ""}

var (
	goodExps = [][]api.Exp{nil, {}, {v("x")}, {v("x"), of(api.EAnd, v("x"), v("y"))}, {v("x"), v("x"), v("x")}, {v("x"), v("x"), v("x"), v("x")}}
	badExps  = [][]api.Exp{{v("X")}, {{}}, {v("x"), of(api.EApp, v("x"))}, {of(api.EOr), v("x")}, {v("x"), v("x"), v("let")}, {{Kind: api.EInt, N: -1}, v("x"), v("x")}}

	goodTypes = []api.Type{tv("a"), tc("A"), tc("Unit"), tc("List", tv("a")), tc("->", tv("a"), tc("->", tv("a"), tc("P", tv("a"), tc("B"))))}
	badTypes  = []api.Type{{Name: "A"}, {N: 1}, {Kids: []api.Type{tv("a")}}, {Kind: api.TMeta}, {Kind: api.TMeta, N: 1}, {Kind: api.TMeta, Name: "a"}, {Kind: 4, Name: "A"}, {Kind: -1, Name: "A"}, tv(""), tv("A"), tv("+"), tv("->"), tv("'0"), tc(""), tc("a"), tc("+"), tc("A B"), tc("->"), tc("->", tv("a")), tc("->", tv("a"), tv("a"), tv("a")), tv("\xff"),
		{Kind: api.TVar, Name: "a", N: 1}, {Kind: api.TCon, Name: "A", N: -1}, {Kind: api.TVar, Name: "a", Kids: []api.Type{tv("a")}}, {Kind: api.TVar, Name: "->", Kids: []api.Type{tv("a"), tv("b")}},
		tc("List", tv("A")), tc("->", tv("a"), tc("->", tv("a"))), tc("->", tc("->"), tv("a")), tc("P", tv("a"), api.Type{Kind: api.TMeta}), tc("List", api.Type{})}

	goodPats = []api.Pat{{Kind: api.PWild}, {Kind: api.PVar, Name: "x"}, {Kind: api.PInt}, {Kind: api.PInt, N: api.MaxInt}, pcon("A"), pcon("C", api.Pat{Kind: api.PWild}, pcon("D", pcon("A")))}
	badPats  = []api.Pat{{}, {Kind: 5}, {Kind: -1}, {Kind: api.PVar}, {Kind: api.PVar, Name: "X"}, {Kind: api.PInt, N: -1}, pcon("c"), pcon("C", api.Pat{}), pcon("C", pcon("D", pcon("A"), pcon("+")))}
)

// has reports whether something with these letters is what a kind needs.
func has(letters, needed string) bool { return strings.ContainsAny(letters, needed) }

// P7.1: every kind of expression with every mixture of parts.
func TestRight(t *testing.T) {
	goodBinds := [][]api.Bind{nil, {{Name: "x", E: v("x")}}, {{Name: "+", E: v("x")}, {Name: "&&", E: v("x"), At: -5}}}
	badBinds := [][]api.Bind{{{Name: "X", E: v("x")}}, {{Name: "", E: v("x")}}, {{Name: "x", E: v("x")}, {Name: "x"}}, {{Name: "->", E: v("x")}}}
	goodAlts := [][]api.Alt{nil, {{P: goodPats[0], E: v("x")}}, {{P: goodPats[5], E: v("x")}, {P: goodPats[1], E: v("x")}}}
	badAlts := [][]api.Alt{{{P: badPats[0], E: v("x")}}, {{P: goodPats[0], E: v("x")}, {P: badPats[8], E: v("x")}}, {{P: goodPats[0]}}}
	needs := map[int]struct {
		name, n           string
		kids              int
		typed, binds, alt bool
	}{
		api.EInt: {name: "E", n: "N"}, api.EStr: {name: "S", n: "Z"}, api.EVar: {name: "LO", n: "Z"}, api.ECon: {name: "U", n: "Z"}, api.EApp: {name: "E", n: "Z", kids: 2}, api.ELam: {name: "L", n: "Z", kids: 1},
		api.ELet: {name: "E", n: "F", kids: 1, binds: true}, api.ECase: {name: "E", n: "Z", kids: 1, alt: true}, api.EIf: {name: "E", n: "Z", kids: 3}, api.EAnd: {name: "E", n: "Z", kids: 2}, api.EOr: {name: "E", n: "Z", kids: 2}, api.EAnn: {name: "E", n: "Z", kids: 1, typed: true},
	}
	found := map[int]bool{}
	check := func(e api.Exp, want bool) {
		if got := Right(e); got != want || (Exp(e) != "") != want {
			t.Fatalf("Right of %+v: %v, and the text %q", e, got, Exp(e))
		}
		found[e.Kind] = found[e.Kind] || want
	}
	for kind := -2; kind < 16; kind++ {
		need, known := needs[kind]
		for name, is := range names {
			for n, whole := range numbers {
				for i, kids := range slices.Concat(goodExps, badExps) {
					plain := known && has(is, need.name) && has(whole, need.n) && len(kids) == need.kids && i < len(goodExps)
					for j, binds := range slices.Concat(goodBinds, badBinds) {
						for k, alts := range slices.Concat(goodAlts, badAlts) {
							e := api.Exp{Kind: kind, Name: name, N: n, Kids: kids, Binds: binds, Alts: alts, At: i - 3}
							parts := plain && (len(binds) > 0) == need.binds && j < len(goodBinds) && (len(alts) > 0) == need.alt && k < len(goodAlts)
							check(e, parts && !need.typed)
							e.T = goodTypes[3]
							check(e, parts && need.typed)
						}
					}
				}
			}
		}
	}
	for kind := range needs {
		if !found[kind] {
			t.Errorf("none of kind %d is right", kind)
		}
	}
}

// P7.1: every type that is right stands in an EAnn only, and no other one does anywhere.
func TestRightTypes(t *testing.T) {
	ann := func(x api.Type) api.Exp { return api.Exp{Kind: api.EAnn, T: x, Kids: []api.Exp{v("x")}} }
	for _, x := range goodTypes {
		e := v("x")
		e.T = x
		if !Right(ann(x)) || Type(x) == "" || Right(e) {
			t.Errorf("%+v", x)
		}
	}
	for _, x := range append(badTypes, api.Type{}) {
		e := v("x")
		e.T = x
		if Right(ann(x)) || Exp(ann(x)) != "" || Type(x) != "" || Right(e) != reflect.DeepEqual(x, api.Type{}) {
			t.Errorf("%+v", x)
		}
	}
	if !Right(api.Exp{Kind: api.EInt, T: api.Type{Kids: []api.Type{}}}) {
		t.Error("a type whose list of Kids is empty is not the zero one")
	}
	for name, is := range names {
		for _, n := range []int{0, 1, -1} {
			if want := has(is, "L") && n == 0; (Type(api.Type{Kind: api.TVar, Name: name, N: n}) != "") != want {
				t.Errorf("TVar %q, %d", name, n)
			}
			if want := has(is, "U") && n == 0; (Type(api.Type{Kind: api.TCon, Name: name, N: n}) != "") != want {
				t.Errorf("TCon %q, %d", name, n)
			}
		}
	}
}

// P7.1: every kind of pattern with every mixture of parts.
func TestRightPats(t *testing.T) {
	kidLists := [][]api.Pat{nil, {}, goodPats[:1], goodPats, badPats[:1], badPats, {goodPats[0], badPats[8]}}
	for kind := -2; kind < 8; kind++ {
		for name, is := range names {
			for n, whole := range numbers {
				for i, kids := range kidLists {
					p := api.Pat{Kind: kind, Name: name, N: n, Kids: kids, At: -i}
					want := false
					switch kind {
					case api.PWild:
						want = has(is, "E") && has(whole, "Z") && len(kids) == 0
					case api.PVar:
						want = has(is, "L") && has(whole, "Z") && len(kids) == 0
					case api.PInt:
						want = has(is, "E") && has(whole, "N") && len(kids) == 0
					case api.PCon:
						want = has(is, "U") && has(whole, "Z") && i < 4
					}
					e := api.Exp{Kind: api.ECase, Kids: []api.Exp{v("x")}, Alts: []api.Alt{{P: p, E: v("x")}}}
					if (Pat(p) != "") != want || Right(e) != want {
						t.Fatalf("%+v: %q", p, Pat(p))
					}
				}
			}
		}
	}
}

// whole returns a program that has everything.
func whole() api.Prog {
	return api.Prog{
		Datas: []api.Data{{Name: "T", Params: []string{"a", "b"}, Cons: []api.Con{{Name: "A"}, {Name: "B", Args: []api.Type{tv("a"), tc("T", tv("a"), tv("b"))}}}, Deriv: []string{"Eq", "Ord"}}},
		Classes: []api.Class{{Name: "Q", Var: "a", Supers: []string{"Eq", "R"}, Methods: []api.Method{{Name: "q", T: tv("a")}, {Name: "+", T: tc("->", tv("a"), tv("a"))}},
			Defaults: []api.Bind{{Name: "q", E: v("x")}, {Name: "+", E: v("+")}}}},
		Insts: []api.Inst{{Class: "Q", Head: tc("T", tv("a"), tv("b")), Ctx: []api.Pred{{Class: "Eq", T: tv("a")}, {Class: "R", T: tv("b")}}, Binds: []api.Bind{{Name: "q", E: v("x")}, {Name: "-", E: v("x")}}}},
		Binds: []api.Bind{{Name: "x", E: v("x")}, {Name: "&&", E: v("x")}},
	}
}

// P7.1: a program with every valid and every invalid part in each place.
func TestRightProg(t *testing.T) {
	check := func(place string, want bool, change func(*api.Prog)) {
		t.Helper()
		p := whole()
		change(&p)
		if RightProg(p) != want || (Prog(p) != "") != want {
			t.Errorf("%s: %v, %q", place, RightProg(p), Prog(p))
		}
	}
	check("all", true, func(*api.Prog) {})
	for place, c := range map[string]struct {
		need string
		set  func(*api.Prog, string)
	}{
		"data": {"U", func(p *api.Prog, s string) { p.Datas[0].Name = s }}, "param": {"L", func(p *api.Prog, s string) { p.Datas[0].Params[1] = s }}, "con": {"U", func(p *api.Prog, s string) { p.Datas[0].Cons[1].Name = s }}, "deriving": {"U", func(p *api.Prog, s string) { p.Datas[0].Deriv[1] = s }},
		"class": {"U", func(p *api.Prog, s string) { p.Classes[0].Name = s }}, "var": {"L", func(p *api.Prog, s string) { p.Classes[0].Var = s }}, "super": {"U", func(p *api.Prog, s string) { p.Classes[0].Supers[1] = s }},
		"method": {"LO", func(p *api.Prog, s string) { p.Classes[0].Methods[1].Name = s }}, "default": {"LO", func(p *api.Prog, s string) { p.Classes[0].Defaults[1].Name = s }},
		"instance": {"U", func(p *api.Prog, s string) { p.Insts[0].Class = s }}, "context": {"U", func(p *api.Prog, s string) { p.Insts[0].Ctx[1].Class = s }}, "context's type": {"L", func(p *api.Prog, s string) { p.Insts[0].Ctx[1].T.Name = s }}, "its def": {"LO", func(p *api.Prog, s string) { p.Insts[0].Binds[1].Name = s }},
		"bind": {"LO", func(p *api.Prog, s string) { p.Binds[1].Name = s }},
	} {
		for name, is := range names {
			check(place+" "+name, has(is, c.need), func(p *api.Prog) { c.set(p, name) })
		}
	}
	for place, set := range map[string]func(*api.Prog, api.Type){
		"argument": func(p *api.Prog, x api.Type) { p.Datas[0].Cons[1].Args[1] = x }, "method": func(p *api.Prog, x api.Type) { p.Classes[0].Methods[1].T = x }, "head": func(p *api.Prog, x api.Type) { p.Insts[0].Head = x },
	} {
		for _, x := range goodTypes {
			check(place, true, func(p *api.Prog) { set(p, x) })
		}
		for _, x := range append(badTypes, api.Type{}) {
			check(place, false, func(p *api.Prog) { set(p, x) })
		}
	}
	for _, x := range slices.Concat(goodTypes, badTypes, []api.Type{{}}) {
		check("context", x.Kind == api.TVar && Type(x) != "", func(p *api.Prog) { p.Insts[0].Ctx[1].T = x })
	}
	for _, e := range []api.Exp{{}, v("X"), of(api.EApp, v("x"))} {
		check("default", false, func(p *api.Prog) { p.Classes[0].Defaults[1].E = e })
		check("its def", false, func(p *api.Prog) { p.Insts[0].Binds[1].E = e })
		check("bind", false, func(p *api.Prog) { p.Binds[1].E = e })
	}
}

// P7.1: which lists can be empty, and that places do not matter.
func TestEmptyLists(t *testing.T) {
	if !RightProg(api.Prog{}) || Prog(api.Prog{}) != "" {
		t.Error("a program without declarations")
	}
	p := whole()
	p.Datas[0].Params, p.Datas[0].Deriv, p.Datas[0].Cons[1].Args = nil, []string{}, nil
	p.Classes[0].Supers, p.Classes[0].Methods, p.Classes[0].Defaults = []string{}, nil, nil
	p.Insts[0].Ctx, p.Insts[0].Binds = nil, []api.Bind{}
	p.Datas[0].At, p.Datas[0].Cons[0].At, p.Classes[0].At, p.Insts[0].At, p.Binds[0].At, p.Binds[0].E.At = -1, -1, math.MinInt, math.MaxInt, -3, -4
	want := "data T = A | B ;\nclass Q a where end ;\ninstance Q ( T a b ) where end ;\ndef x = x ;\ndef ( && ) = x ;\n"
	if got := Prog(p); got != want || !RightProg(p) {
		t.Errorf("got %q", got)
	}
	p.Datas[0].Cons = nil
	if RightProg(p) || Prog(p) != "" {
		t.Error("a data type without constructors")
	}
}
