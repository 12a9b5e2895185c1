package tree

import (
	"math/rand"
	"reflect"
	"slices"
	"strconv"
	"strings"
	"testing"

	"cognate/api"
)

func v(name string) api.Exp { return api.Exp{Kind: api.EVar, Name: name} }

func con(name string) api.Exp { return api.Exp{Kind: api.ECon, Name: name} }

func num(n int64) api.Exp { return api.Exp{Kind: api.EInt, N: n} }

func text(s string) api.Exp { return api.Exp{Kind: api.EStr, Name: s} }

// of returns an expression of a kind that has only Kids.
func of(kind int, kids ...api.Exp) api.Exp { return api.Exp{Kind: kind, Kids: kids} }

// app applies a function to arguments, one after the other.
func app(f api.Exp, args ...api.Exp) api.Exp {
	for _, x := range args {
		f = of(api.EApp, f, x)
	}
	return f
}

// lam returns a function of several names, separated by blanks.
func lam(names string, body api.Exp) api.Exp {
	for _, name := range slices.Backward(strings.Fields(names)) {
		body = api.Exp{Kind: api.ELam, Name: name, Kids: []api.Exp{body}}
	}
	return body
}

func bind(name string, e api.Exp) api.Bind { return api.Bind{Name: name, E: e} }

func let(rec int64, body api.Exp, binds ...api.Bind) api.Exp {
	return api.Exp{Kind: api.ELet, N: rec, Binds: binds, Kids: []api.Exp{body}}
}

func alt(p api.Pat, e api.Exp) api.Alt { return api.Alt{P: p, E: e} }

func cases(e api.Exp, alts ...api.Alt) api.Exp {
	return api.Exp{Kind: api.ECase, Kids: []api.Exp{e}, Alts: alts}
}

func ann(e api.Exp) api.Exp {
	return api.Exp{Kind: api.EAnn, T: api.Type{Kind: api.TCon, Name: "Int"}, Kids: []api.Exp{e}}
}

func pv(name string) api.Pat { return api.Pat{Kind: api.PVar, Name: name} }

func pcon(name string, kids ...api.Pat) api.Pat {
	return api.Pat{Kind: api.PCon, Name: name, Kids: kids}
}

var wild = api.Pat{Kind: api.PWild}

// odd has parts of all three lists, though its kind has none.
func odd(kind int, n int64) api.Exp {
	return api.Exp{Kind: kind, Name: "x", N: n, Kids: []api.Exp{v("x"), v("k"), v("p"), v("b")},
		Binds: []api.Bind{bind("b", app(v("x"), v("b"), v("p"), v("d")))}, Alts: []api.Alt{alt(pv("p"), app(v("x"), v("b"), v("p"), v("a")))}}
}

// P5.1
func TestSizeAndDeep(t *testing.T) {
	chain := app(v("f"), v("x"), v("y"), v("z"))
	for i, c := range []struct {
		e          api.Exp
		size, deep int
	}{
		{api.Exp{}, 1, 1}, {num(3), 1, 1}, {text("a b"), 1, 1}, {v("x"), 1, 1}, {con("Nil"), 1, 1},
		{app(v("f"), v("x")), 3, 2}, {chain, 7, 4}, {app(v("f"), chain), 9, 5}, {app(chain, chain), 15, 5},
		{lam("x", v("x")), 2, 2}, {lam("x y z", v("x")), 4, 4}, {ann(chain), 8, 5},
		{of(api.EIf, v("a"), chain, num(1)), 10, 5}, {of(api.EAnd, v("a"), v("b")), 3, 2}, {of(api.EOr, chain, chain), 15, 5},
		// The parts of binds and alternatives count, those of patterns do not.
		{let(0, v("x"), bind("x", num(1))), 3, 2}, {let(1, v("x"), bind("x", chain), bind("y", num(1))), 10, 5}, {let(0, chain, bind("x", num(1))), 9, 5},
		{cases(v("x")), 2, 2}, {cases(v("x"), alt(wild, num(1)), alt(pcon("C", pcon("D", pv("x"), pv("y"))), chain)), 10, 5}, {cases(chain, alt(wild, num(1))), 9, 5},
		// The three lists are parts of every kind.
		{odd(0, 0), 19, 5}, {odd(api.EVar, 0), 19, 5}, {odd(api.ELam, 0), 19, 5}, {odd(api.ELet, 0), 19, 5}, {odd(api.ELet, 1), 19, 5}, {odd(-1, 1), 19, 5},
	} {
		if got := Size(c.e); got != c.size {
			t.Errorf("%d: Size = %d, want %d", i, got, c.size)
		}
		if got := Deep(c.e); got != c.deep {
			t.Errorf("%d: Deep = %d, want %d", i, got, c.deep)
		}
	}
}

// fill sets all fields of a value to something, each to another, with lists of two elements so many levels down.
func fill(x reflect.Value, levels int, next *int) {
	*next++
	switch x.Kind() {
	case reflect.Int, reflect.Int64:
		x.SetInt(int64(*next))
	case reflect.String:
		x.SetString("s" + strconv.Itoa(*next))
	case reflect.Struct:
		for i := range x.NumField() {
			fill(x.Field(i), levels, next)
		}
	case reflect.Slice:
		if levels == 0 {
			return
		}
		x.Set(reflect.MakeSlice(x.Type(), 2, 2))
		for i := range 2 {
			fill(x.Index(i), levels-1, next)
		}
	}
}

// changes makes every change of one place in a value, calls check with the place's path, and undoes it.
func changes(x reflect.Value, path string, check func(path string)) {
	old := reflect.New(x.Type()).Elem()
	old.Set(x)
	report := func(how string) {
		check(path + how)
		x.Set(old)
	}
	switch x.Kind() {
	case reflect.Int, reflect.Int64:
		x.SetInt(x.Int() + 1)
		report("")
	case reflect.String:
		x.SetString(x.String() + "'")
		report("")
	case reflect.Struct:
		for i := range x.NumField() {
			changes(x.Field(i), path+"."+x.Type().Field(i).Name, check)
		}
	case reflect.Slice:
		for i := range x.Len() {
			changes(x.Index(i), path+"["+strconv.Itoa(i)+"]", check)
		}
		x.Set(reflect.Append(x.Slice3(0, x.Len(), x.Len()), reflect.Zero(x.Type().Elem())))
		report(" longer")
		if x.Len() > 0 {
			x.Set(x.Slice(0, x.Len()-1))
			report(" without the last")
			x.Set(old.Slice(1, old.Len()))
			report(" without the first")
			x.Set(reflect.AppendSlice(reflect.AppendSlice(reflect.Zero(x.Type()), old.Slice(1, old.Len())), old.Slice(0, 1)))
			report(" turned")
		}
	}
}

// checkFields checks that same compares every field but At, at every place of a value.
func checkFields[T any](t *testing.T, levels, places int, same func(a, b T) bool) {
	t.Helper()
	var a, b, none, empty T
	next := 0
	fill(reflect.ValueOf(&a).Elem(), levels, &next)
	next = 0
	fill(reflect.ValueOf(&b).Elem(), levels, &next)
	whole := reflect.ValueOf(&empty).Elem()
	for i := range whole.NumField() {
		if f := whole.Field(i); f.Kind() == reflect.Slice {
			f.Set(reflect.MakeSlice(f.Type(), 0, 3))
		}
	}
	if !same(a, b) || !same(none, none) || !same(none, empty) || !same(empty, none) || same(a, none) || same(none, a) || same(empty, a) {
		t.Errorf("%T: equal ones are not the same, or others are", a)
	}
	seen := 0
	changes(reflect.ValueOf(&b).Elem(), reflect.TypeFor[T]().Name(), func(path string) {
		seen++
		want := strings.HasSuffix(path, ".At")
		if same(a, b) != want || same(b, a) != want {
			t.Errorf("the same is not %t after a change of %s", want, path)
		}
	})
	if seen < places || !same(a, b) {
		t.Errorf("%T: only %d places changed, or not undone", a, seen)
	}
}

// P5.1
func TestSame(t *testing.T) {
	checkFields(t, 2, 20, SameType)
	checkFields(t, 3, 50, SamePat)
	checkFields(t, 3, 1000, Same)
	checkFields(t, 3, 500, SameProg)
}

// P5.1: ordinary arguments.
func TestSameOfOrdinary(t *testing.T) {
	a := cases(app(v("f"), num(1)), alt(pcon("Cons", pv("x"), wild), text("a")), alt(wild, ann(v("y"))))
	b := cases(app(v("f"), num(1)), alt(pcon("Cons", pv("x"), wild), text("a")), alt(wild, ann(v("y"))))
	b.At, b.Kids[0].At, b.Alts[0].P.At, b.Alts[0].P.Kids[1].At, b.Alts[1].E.At = 1, 2, 3, 4, 5
	if !Same(a, b) {
		t.Error("At counts")
	}
	for i, x := range []api.Exp{v("x"), con("x"), text("x"), num(0), lam("x", v("x")), lam("x", v("y")), lam("y", v("x")), app(v("x"), v("x")), of(api.EAnd, v("x"), v("x")),
		of(api.EOr, v("x"), v("x")), let(0, v("x"), bind("x", v("x"))), let(1, v("x"), bind("x", v("x"))), ann(v("x")), cases(v("x")), cases(v("x"), alt(wild, v("x"))), {}} {
		for j, y := range []api.Exp{v("x"), con("x"), text("x"), num(0), lam("x", v("x")), lam("x", v("y")), lam("y", v("x")), app(v("x"), v("x")), of(api.EAnd, v("x"), v("x")),
			of(api.EOr, v("x"), v("x")), let(0, v("x"), bind("x", v("x"))), let(1, v("x"), bind("x", v("x"))), ann(v("x")), cases(v("x")), cases(v("x"), alt(wild, v("x"))), {}} {
			if Same(x, y) != (i == j) {
				t.Errorf("Same of %d and %d", i, j)
			}
		}
	}
	arrow := api.Type{Kind: api.TCon, Name: "->", Kids: []api.Type{{Kind: api.TVar, Name: "a"}, {Kind: api.TMeta, N: 3}}}
	if !SameType(arrow, arrow) || SameType(arrow, arrow.Kids[0]) || SameType(api.Type{Kind: api.TVar, Name: "A"}, api.Type{Kind: api.TCon, Name: "A"}) {
		t.Error("SameType")
	}
}

// P5.2
func TestNames(t *testing.T) {
	for _, c := range []struct {
		p    api.Pat
		want string
	}{
		{api.Pat{}, ""}, {wild, ""}, {pv("x"), "x"}, {api.Pat{Kind: api.PInt, N: 3}, ""}, {pcon("Nil"), ""},
		{pcon("Cons", pv("y"), pcon("Cons", pv("x"), wild)), "y x"}, {pcon("C", pcon("D", pv("a"), pv("b")), wild, pv("c"), pcon("E", pv("a"))), "a b c a"},
		{pcon("C", pv("x"), pv("x"), pv("x")), "x x x"},
		// Kids are visited whatever the kind, and only variables have names.
		{api.Pat{Kind: api.PWild, Name: "w", Kids: []api.Pat{pv("x"), wild}}, "x"}, {api.Pat{Kind: api.PInt, Name: "i", Kids: []api.Pat{pv("x"), pv("y")}}, "x y"},
		{api.Pat{Kind: api.PVar, Name: "v", Kids: []api.Pat{pcon("C", pv("x")), pv("v")}}, "v x v"}, {api.Pat{Kind: 77, Name: "n", Kids: []api.Pat{pv("x")}}, "x"},
	} {
		if got := Names(c.p); strings.Join(got, " ") != c.want {
			t.Errorf("Names = %q, want %s", got, c.want)
		}
	}
	if got := Names(pv("")); len(got) != 1 {
		t.Errorf("Names of the empty name = %q", got)
	}
}

// P5.2
func TestFree(t *testing.T) {
	xy := app(v("x"), v("y"))
	for i, c := range []struct {
		e    api.Exp
		want string
	}{
		{api.Exp{}, ""}, {num(1), ""}, {text("x"), ""}, {con("Cons"), ""}, {v("x"), "x"}, {v("+"), "+"},
		{lam("x", app(v("f"), xy, v("f"))), "f y"}, {app(v("y"), v("x"), v("y")), "y x"}, {of(api.EIf, v("c"), xy, v("b")), "c x y b"},
		{of(api.EAnd, v("y"), v("x")), "y x"}, {of(api.EOr, v("y"), v("x")), "y x"}, {ann(xy), "x y"}, {app(v("+"), num(1), v("z")), "+ z"},
		// A name is bound only within, and the inner one ends first.
		{app(lam("x", v("x")), v("x")), "x"}, {app(v("x"), lam("x", v("x"))), "x"}, {lam("x", app(lam("x", v("x")), v("x"))), ""}, {lam("x y", app(xy, v("z"))), "z"},
		{app(lam("x", app(lam("x", v("x")), xy)), v("x")), "y x"},
		// A let binds its names in its body, and in its binds only if N is 1; the binds come first.
		{let(0, xy, bind("x", app(v("x"), v("a"), v("y"))), bind("y", v("b"))), "x a y b"}, {let(1, xy, bind("x", app(v("x"), v("a"), v("y"))), bind("y", v("b"))), "a b"},
		{let(0, v("k"), bind("x", v("e"))), "e k"}, {let(1, v("k"), bind("x", v("e"))), "e k"}, {let(2, v("x"), bind("x", v("x"))), "x"}, {let(-1, v("x"), bind("x", v("x"))), "x"},
		{let(0, v("x"), bind("x", num(1)), bind("z", v("x"))), "x"}, {app(let(1, v("x"), bind("x", v("x"))), v("x")), "x"}, {let(1, v("x"), bind("x", v("x")), bind("x", v("x"))), ""},
		{app(let(1, v("x"), bind("x", v("x")), bind("x", v("x"))), v("x")), "x"}, {lam("x", app(let(0, v("y"), bind("x", v("x"))), v("x"))), "y"},
		// An alternative binds the names of its pattern in its own expression.
		{cases(v("x"), alt(pcon("C", pv("x"), pv("y")), app(v("y"), v("x"), v("z"))), alt(wild, v("y"))), "x z y"}, {cases(v("e"), alt(pv("e"), v("e")), alt(wild, v("d"))), "e d"},
		{cases(num(1), alt(pcon("C", pv("x"), pv("x")), v("x")), alt(pcon("D"), v("x"))), "x"}, {cases(num(1), alt(api.Pat{Kind: api.PInt, Name: "x"}, v("x"))), "x"},
		{cases(num(1), alt(api.Pat{Kind: api.PWild, Kids: []api.Pat{pv("x")}}, xy)), "y"},
		// Every kind may have all lists.
		{odd(0, 1), "x k p b d a"}, {odd(api.EVar, 1), "x k p b d a"}, {odd(api.ECase, 1), "x k p b d a"}, {odd(api.ELam, 1), "k p b x d a"}, {odd(api.ELet, 0), "x b p d k a"}, {odd(api.ELet, 1), "x p d k b a"},
	} {
		if got := Free(c.e); strings.Join(got, " ") != c.want {
			t.Errorf("%d: Free = %q, want %s", i, got, c.want)
		}
	}
	if got := Free(v("")); len(got) != 1 {
		t.Errorf("Free of the empty name = %q", got)
	}
}

// P5.2
func TestValue(t *testing.T) {
	x, fx, nil1 := v("x"), app(v("f"), v("x")), con("Nil")
	for i, e := range []api.Exp{x, v("+"), nil1, text(""), lam("x", fx), lam("x y", num(1)), app(con("Cons"), x), app(con("Cons"), x, nil1), app(con("Cons"), lam("x", fx), app(con("Cons"), text("a"), nil1)),
		ann(x), ann(ann(lam("x", fx))), app(con("Cons"), ann(x)), ann(app(con("Cons"), x)), {Kind: api.ELam}, app(con("C"), x, x, x, x, x)} {
		if !Value(e) {
			t.Errorf("Value of %d is false", i)
		}
	}
	for i, e := range []api.Exp{{}, num(0), fx, app(x, nil1), app(lam("x", x), x), app(con("Cons"), num(1)), app(con("Cons"), fx), app(con("Cons"), fx, x), app(con("Cons"), x, fx), app(con("Cons"), x, num(1)),
		app(v("f"), x, x), app(ann(con("Cons")), x), app(ann(app(con("Cons"), x)), x), app(text("f"), x), app(con("C"), app(con("D"), num(1))), app(app(ann(con("C")), x), x),
		let(0, x, bind("x", x)), let(1, x, bind("x", x)), cases(x, alt(wild, x)), of(api.EIf, x, x, x), of(api.EAnd, x, x), of(api.EOr, x, x), ann(fx), ann(num(1)), ann(let(0, x, bind("x", x))),
		// Other numbers of Kids.
		of(api.EApp), of(api.EApp, con("C")), of(api.EApp, con("C"), x, x), of(api.EAnn), of(api.EAnn, x, x), app(of(api.EApp, con("C")), x), {Kind: 99}, {Kind: -1, Kids: []api.Exp{x}}} {
		if Value(e) {
			t.Errorf("Value of the invalid %d is true", i)
		}
	}
}

// some returns an arbitrary expression; if wide, of any kind with any lists.
func some(r *rand.Rand, levels int, wide bool) api.Exp {
	name := string("xyzfg+"[r.Intn(6)])
	kids := func(n int) []api.Exp {
		l := make([]api.Exp, n)
		for i := range l {
			l[i] = some(r, levels-1, wide)
		}
		return l
	}
	if levels == 0 {
		return [...]api.Exp{v(name), v(name), con("C"), text("s"), num(2)}[r.Intn(5)]
	}
	e := api.Exp{Kind: 1 + r.Intn(12), Name: name, N: int64(r.Intn(3)), At: r.Intn(9)}
	counts := [...]int{0, 0, 0, 0, 0, 2, 1, 1, 1, 3, 2, 2, 1}
	e.Kids = kids(counts[e.Kind])
	if wide {
		e.Kind, e.Kids = r.Intn(14), kids(r.Intn(4))
	}
	if wide || e.Kind == api.ELet {
		for range 1 + r.Intn(2) {
			e.Binds = append(e.Binds, bind(string("xyzfg"[r.Intn(5)]), some(r, levels-1, wide)))
		}
	}
	if wide || e.Kind == api.ECase {
		for range 1 + r.Intn(2) {
			p := pcon("C", pv(name), pcon("D", wild, pv(string("xyzfg"[r.Intn(5)]))))
			e.Alts = append(e.Alts, alt(p, some(r, levels-1, wide)))
		}
	}
	return e
}

// samples calls check with so many arbitrary expressions of both sorts, always the same.
func samples(count int, check func(api.Exp)) {
	r := rand.New(rand.NewSource(5))
	for n := range count {
		check(some(r, n%5, false))
		check(some(r, n%4, true))
	}
}

// part is a part of an expression, with the names that are bound in it.
type part struct {
	e     api.Exp
	names []string
}

// modelParts returns the parts of e by the chapter's words.
func modelParts(e api.Exp) []part {
	var kids, binds, alts []part
	for _, k := range e.Kids {
		p := part{e: k}
		if e.Kind == api.ELam {
			p.names = []string{e.Name}
		}
		for _, b := range e.Binds {
			if e.Kind == api.ELet {
				p.names = append(p.names, b.Name)
			}
		}
		kids = append(kids, p)
	}
	for _, b := range e.Binds {
		p := part{e: b.E}
		for _, other := range e.Binds {
			if e.Kind == api.ELet && e.N == 1 {
				p.names = append(p.names, other.Name)
			}
		}
		binds = append(binds, p)
	}
	for _, a := range e.Alts {
		alts = append(alts, part{a.E, Names(a.P)})
	}
	if e.Kind == api.ELet {
		return slices.Concat(binds, kids, alts)
	}
	return slices.Concat(kids, binds, alts)
}

// modelFree returns the free names of e, each once.
func modelFree(e api.Exp) []string {
	var names []string
	if e.Kind == api.EVar {
		names = append(names, e.Name)
	}
	for _, p := range modelParts(e) {
		for _, name := range modelFree(p.e) {
			if !slices.Contains(p.names, name) && !slices.Contains(names, name) {
				names = append(names, name)
			}
		}
	}
	return names
}

// modelSize returns the size and the depth of e.
func modelSize(e api.Exp) (size, deep int) {
	for _, p := range modelParts(e) {
		s, d := modelSize(p.e)
		size, deep = size+s, max(deep, d)
	}
	return 1 + size, 1 + deep
}

// P5.1 and P5.2: on arbitrary expressions, which stay as they are.
func TestAgainstModel(t *testing.T) {
	names := 0
	samples(6000, func(e api.Exp) {
		before := cloned(e, 0)
		size, deep := modelSize(e)
		if gotSize, gotDeep := Size(e), Deep(e); gotSize != size || gotDeep != deep {
			t.Fatalf("Size, Deep = %d, %d, want %d, %d of %+v", gotSize, gotDeep, size, deep, e)
		}
		got, want := Free(e), modelFree(e)
		if !slices.Equal(got, want) {
			t.Fatalf("Free = %q, want %q of %+v", got, want, e)
		}
		names += len(got)
		Value(e)
		if !reflect.DeepEqual(e, before) {
			t.Fatalf("changed: %+v", e)
		}
	})
	if names < 10000 {
		t.Errorf("only %d free names", names)
	}
}

// cloned returns a copy of e that shares no memory with it, with all At moved.
func cloned(e api.Exp, by int) api.Exp {
	e.At += by
	e.Kids = slices.Clone(e.Kids)
	for i := range e.Kids {
		e.Kids[i] = cloned(e.Kids[i], by)
	}
	e.Binds = slices.Clone(e.Binds)
	for i := range e.Binds {
		e.Binds[i].E = cloned(e.Binds[i].E, by)
		e.Binds[i].At += by
	}
	e.Alts = slices.Clone(e.Alts)
	for i := range e.Alts {
		e.Alts[i] = alt(clonedPat(e.Alts[i].P, by), cloned(e.Alts[i].E, by))
	}
	return e
}

func clonedPat(p api.Pat, by int) api.Pat {
	p.At += by
	p.Kids = slices.Clone(p.Kids)
	for i := range p.Kids {
		p.Kids[i] = clonedPat(p.Kids[i], by)
	}
	return p
}

// P5.3: equal expressions have the same size, depth, names and free variables.
func TestEqualOnesAgree(t *testing.T) {
	var last api.Exp
	samples(6000, func(e api.Exp) {
		other := cloned(e, 7)
		if !Same(e, other) || !Same(other, e) || Same(e, last) != Same(last, e) {
			t.Fatalf("Same of %+v", e)
		}
		if Same(e, last) {
			other = last
		}
		if Size(e) != Size(other) || Deep(e) != Deep(other) || !slices.Equal(Free(e), Free(other)) || Value(e) != Value(other) {
			t.Fatalf("equal ones differ: %+v", e)
		}
		for i, a := range e.Alts {
			if p := other.Alts[i].P; !SamePat(a.P, p) || !slices.Equal(Names(a.P), Names(p)) {
				t.Fatalf("equal patterns differ: %+v", a.P)
			}
		}
		last = e
	})
}

// P5.3: binding a name that is not free changes nothing; binding one that is takes only that one away.
func TestBindingANameThatIsNotFree(t *testing.T) {
	samples(1500, func(e api.Exp) {
		for _, name := range []string{"x", "f", "+", "new", ""} {
			want := slices.DeleteFunc(Free(e), func(free string) bool { return free == name })
			for i, whole := range []api.Exp{lam(name, e), let(0, e, bind(name, num(1))), let(1, e, bind(name, num(1))), let(1, num(1), bind(name, e)), let(1, e, bind(name, con("C")), bind(name, v(name))),
				cases(con("C"), alt(pv(name), e)), cases(con("C"), alt(pcon("C", wild, pcon("D", pv(name), pv(name))), e))} {
				if got := Free(whole); !slices.Equal(got, want) {
					t.Fatalf("%d: Free = %q after %q was bound, want %q in %+v", i, got, name, want, e)
				}
			}
		}
	})
}

// applies reports whether e has a part, outside functions, that applies a function: an application that no constructor begins.
func applies(e api.Exp) bool {
	if e.Kind == api.ELam {
		return false
	}
	head := e
	for head.Kind == api.EApp && len(head.Kids) > 0 {
		head = head.Kids[0]
	}
	if e.Kind == api.EApp && head.Kind != api.ECon {
		return true
	}
	return slices.ContainsFunc(modelParts(e), func(p part) bool { return applies(p.e) })
}

// built reports whether e, with the Kids that its kind requires, is a syntactic value: a constructor applied to values, a leaf, a function, or one of these with a type.
func built(e api.Exp) bool {
	if e.Kind == api.EAnn {
		return built(e.Kids[0])
	}
	args := 0
	for e.Kind == api.EApp {
		if !built(e.Kids[1]) {
			return false
		}
		e = e.Kids[0]
		args++
	}
	return e.Kind == api.ECon || args == 0 && slices.Contains([]int{api.ELam, api.EVar, api.EStr}, e.Kind)
}

// P5.2 and P5.3: every expression of a few kinds.
func TestValuesApplyNoFunction(t *testing.T) {
	leaves := []api.Exp{v("x"), con("C"), text("s"), num(1), lam("x", app(v("f"), v("x"))), of(api.EIf, v("x"), v("x"), v("x"))}
	all := leaves
	for range 2 {
		next := slices.Clone(leaves)
		for i, e := range all {
			next = append(next, ann(e), lam("x", e))
			for j, x := range all {
				if i*7+j*3 < 400 || (i+j)%11 == 0 {
					next = append(next, app(e, x))
				}
			}
		}
		all = next
	}
	values := 0
	for _, e := range all {
		got := Value(e)
		if got != built(e) || got && applies(e) {
			t.Fatalf("Value = %t of %+v", got, e)
		}
		if got {
			values++
		}
	}
	if values < 100 || values > len(all)*9/10 {
		t.Errorf("%d values of %d", values, len(all))
	}
}

// nest puts an expression into so many others.
func nest(n int, inner api.Exp, outer func(api.Exp) api.Exp) api.Exp {
	for range n {
		inner = outer(inner)
	}
	return inner
}

// The bound of the document: 2^16 levels.
func TestDeepOnes(t *testing.T) {
	const deep = 1<<16 - 1
	for i, outer := range []func(api.Exp) api.Exp{
		func(e api.Exp) api.Exp { return lam("x", e) },
		func(e api.Exp) api.Exp { return app(e, con("C")) },
		func(e api.Exp) api.Exp { return app(con("C"), e) },
		func(e api.Exp) api.Exp { return ann(e) },
		func(e api.Exp) api.Exp { return let(1, num(1), bind("x", e)) },
		func(e api.Exp) api.Exp { return cases(num(1), alt(pv("x"), e)) },
	} {
		e, other := nest(deep, con("C"), outer), nest(deep, con("C"), outer)
		if got := Deep(e); got != deep+1 {
			t.Errorf("%d: Deep = %d", i, got)
		}
		if Size(e) < deep || len(Free(e)) != 0 || Value(e) != (i < 4) || !Same(e, other) || Same(e, nest(deep, con("D"), outer)) {
			t.Errorf("%d: deep ones", i)
		}
	}
	p, ty := pv("x"), api.Type{Kind: api.TVar, Name: "a"}
	for range deep {
		p = pcon("C", pv("y"), p)
		ty = api.Type{Kind: api.TCon, Name: "List", Kids: []api.Type{ty}}
	}
	if got := Names(p); len(got) != deep+1 || got[deep-1] != "y" || got[deep] != "x" || !SamePat(p, p) || !SameType(ty, ty) || SameType(ty, ty.Kids[0]) {
		t.Error("deep pattern or type")
	}
}

// Lists as long as no source has them.
func TestWideOnes(t *testing.T) {
	const wide = 1 << 17
	var binds []api.Bind
	var alts []api.Alt
	var kids []api.Exp
	var pats []api.Pat
	for i := range wide {
		name := "x" + strconv.Itoa(i)
		next := v("x" + strconv.Itoa(i+1))
		binds = append(binds, bind(name, next))
		alts = append(alts, alt(pv(name), next))
		kids = append(kids, next)
		pats = append(pats, pv(name))
	}
	rec, let0, all, many := let(1, v("x0"), binds...), let(0, v("x0"), binds...), cases(v("x0"), alts...), of(api.EApp, kids...)
	for i, e := range []api.Exp{rec, let0, all} {
		if Size(e) != wide+2 || Deep(e) != 2 || !Same(e, cloned(e, 1)) {
			t.Errorf("%d: Size, Deep or Same", i)
		}
	}
	if got := Free(rec); len(got) != 1 || got[0] != "x"+strconv.Itoa(wide) {
		t.Error("Free of a recursive let:", len(got))
	}
	if len(Free(let0)) != wide || len(Free(all)) != wide+1 || len(Free(many)) != wide || Size(many) != wide+1 {
		t.Error("Free of wide ones")
	}
	if whole := cases(num(1), alt(pcon("C", pats...), of(api.EApp, kids...))); len(Free(whole)) != 1 {
		t.Error("Free of a wide pattern")
	}
}

// Each result is new.
func TestResultsShareNothing(t *testing.T) {
	e, p := app(v("x"), v("y")), pcon("C", pv("x"), pv("y"))
	free, names := Free(e), Names(p)
	free[0], names[0] = "changed", "changed"
	if Free(e)[0] != "x" || Names(p)[0] != "x" || e.Kids[0].Name != "x" || p.Kids[0].Name != "x" {
		t.Error("results share memory")
	}
}
