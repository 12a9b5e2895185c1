package parse

import (
	"math/rand"
	"reflect"
	"slices"
	"strings"
	"testing"

	"cognate/api"
	"cognate/fix"
	"cognate/tree"
)

// writer makes arbitrary sources, token by token, together with what they come to; there, each At is the index of a token.
type writer struct {
	r      *rand.Rand
	tokens []string
	level  int
	// dig is how many brackets are still to be put around an exp, type or pat.
	dig int
	// first is the first error, if there is one.
	first api.Diag
	// spans are expressions that can be put in brackets: the first token, and the one behind the last.
	spans [][2]int
}

func (w *writer) pick(l ...string) string { return l[w.r.Intn(len(l))] }

// emit adds tokens and returns the index of the first one.
func (w *writer) emit(l ...string) int {
	w.tokens = append(w.tokens, l...)
	return len(w.tokens) - len(l)
}

func (w *writer) fail(code api.Errno, at int) {
	if w.first == (api.Diag{}) {
		w.first = api.Diag{Code: code, At: at}
	}
}

func (w *writer) low() string { return w.pick("x", "y'", "_z", "lets", "a", "b", "f") }

func (w *writer) up() string { return w.pick("A", "Cons", "Nil", "Data", "T'", "Unit") }

func (w *writer) op() string {
	if w.r.Intn(5) == 0 {
		return w.pick("==", "/=", "<", ">=")
	}
	return w.pick(":=", "||", "&&", "::", "^", "+", "-", "*", "%", "!", "<>", "=>", "->>")
}

// repeat calls f at least so many times, and seldom much more often.
func (w *writer) repeat(least int, f func()) {
	for n := 0; n < least || n < 50 && w.r.Intn(3) == 0; n++ {
		f()
	}
}

// separated calls f at least once, with a sign between.
func (w *writer) separated(sign string, f func()) {
	n := 0
	w.repeat(1, func() {
		if n > 0 {
			w.emit(sign)
		}
		n++
		f()
	})
}

// nested makes an exp, a type or a pat: one level below the surrounding one.
func nested[T any](w *writer, size int, inner func(int) T) T {
	w.level++
	defer func() { w.level-- }()
	if w.level > api.MaxDeep {
		w.fail(api.ErrDeep, len(w.tokens))
	}
	if w.dig == 0 || w.r.Intn(400) == 0 {
		return inner(size)
	}
	w.dig--
	w.emit("(")
	x := nested(w, size, inner)
	w.emit(")")
	return x
}

func (w *writer) span(from int) { w.spans = append(w.spans, [2]int{from, len(w.tokens)}) }

func (w *writer) exp(size int) api.Exp {
	from := len(w.tokens)
	e := nested(w, size, w.sequence)
	w.span(from)
	return e
}

// part is an operand, with its first token and the one behind its last.
type part struct {
	e        api.Exp
	from, to int
}

func (w *writer) sequence(size int) api.Exp {
	var parts []part
	var ops []int
	add := func(operand func(int) api.Exp) {
		from := len(w.tokens)
		e := operand(size - 1)
		parts = append(parts, part{e, from, len(w.tokens)})
	}
	for size > 0 && len(ops) < 12 && w.r.Intn(5) < 2 {
		add(w.atoms)
		ops = append(ops, w.emit(w.op()))
	}
	add(w.operand)
	w.clash(ops)
	return w.applied(ops, parts)
}

// clash fails at the first of the operators of level 4 that has another one before it and only higher levels between.
func (w *writer) clash(ops []int) {
	before := 0
	for _, i := range ops {
		level, _ := fix.Level(w.tokens[i])
		if level == 4 && before == 4 {
			w.fail(api.ErrOps, i)
		}
		if level <= 4 {
			before = level
		}
	}
}

// applied applies operators: of those of the lowest level the last one, or the first one if they associate to the right, comes last.
func (w *writer) applied(ops []int, parts []part) api.Exp {
	w.spans = append(w.spans, [2]int{parts[0].from, parts[len(parts)-1].to})
	if len(ops) == 0 {
		return parts[0].e
	}
	root := 0
	for i := range ops {
		lowest, _ := fix.Level(w.tokens[ops[root]])
		if level, side := fix.Level(w.tokens[ops[i]]); level < lowest || level == lowest && side == 1 {
			root = i
		}
	}
	a, b := w.applied(ops[:root], parts[:root+1]), w.applied(ops[root+1:], parts[root+1:])
	switch name := w.tokens[ops[root]]; name {
	case "&&":
		return of(api.EAnd, ops[root], a, b)
	case "||":
		return of(api.EOr, ops[root], a, b)
	default:
		return op(name, ops[root], a, b)
	}
}

func (w *writer) operand(size int) api.Exp {
	if size <= 0 {
		return w.atoms(size)
	}
	switch w.r.Intn(8) {
	case 0:
		at := w.emit("\\")
		return w.lam(at, size)
	case 1:
		e := api.Exp{Kind: api.ELet, At: w.emit("let")}
		if w.r.Intn(2) == 0 {
			w.emit("rec")
			e.N = 1
		}
		w.separated("and", func() { e.Binds = append(e.Binds, w.bind(size-1)) })
		w.emit("in")
		e.Kids = []api.Exp{w.exp(size - 1)}
		return e
	case 2:
		e := api.Exp{Kind: api.EIf}
		for i, sign := range []string{"if", "then", "else"} {
			if at := w.emit(sign); i == 0 {
				e.At = at
			}
			e.Kids = append(e.Kids, w.exp(size-1))
		}
		return e
	}
	return w.atoms(size)
}

// lam makes a function from its first name on, which stands at a token.
func (w *writer) lam(at, size int) api.Exp {
	e := api.Exp{Kind: api.ELam, Name: w.low(), At: at}
	next := w.emit(e.Name) + 1
	if w.r.Intn(3) == 0 {
		e.Kids = []api.Exp{w.lam(next, size)}
		return e
	}
	w.emit("->")
	e.Kids = []api.Exp{w.exp(size - 1)}
	return e
}

func (w *writer) atoms(size int) api.Exp {
	from := len(w.tokens)
	e := w.atom(size)
	w.span(from)
	for size > 0 && w.r.Intn(4) == 0 {
		start := len(w.tokens)
		x := w.atom(size - 1)
		w.span(start)
		e = app(from, e, x)
		w.span(from)
	}
	return e
}

func (w *writer) atom(size int) api.Exp {
	kinds := 7
	if size > 0 {
		kinds = 11
	}
	switch w.r.Intn(kinds) {
	case 0:
		s := w.pick("", "a", "(", "def", "+", "x y", "#", "é")
		return str(s, w.emit(`"`+s+`"`))
	case 1:
		return num(7, w.emit(w.pick("7", "007")))
	case 2:
		return con("Unit", w.emit("(", ")"))
	case 3:
		name := w.op()
		return v(name, w.emit("(", name, ")"))
	case 4:
		name := w.up()
		return con(name, w.emit(name))
	case 7:
		w.emit("(")
		e := w.exp(size - 1)
		w.emit(")")
		return e
	case 8:
		at := w.emit("(")
		e := w.exp(size - 1)
		w.emit(":")
		t := w.typ(size - 1)
		w.emit(")")
		return ann(at, e, t)
	case 9:
		at := w.emit("case")
		e := cases(at, w.exp(size-1))
		w.emit("of")
		w.separated("|", func() {
			p := w.pat(size - 1)
			w.emit("->")
			e.Alts = append(e.Alts, alt(p, w.exp(size-1)))
		})
		w.emit("end")
		return e
	}
	name := w.low()
	return v(name, w.emit(name))
}

func (w *writer) pat(size int) api.Pat { return nested(w, size, w.application) }

func (w *writer) application(size int) api.Pat {
	if w.r.Intn(2) == 0 {
		return w.apat(size)
	}
	name := w.up()
	p := pcon(name, w.emit(name))
	w.repeat(0, func() { p.Kids = append(p.Kids, w.apat(size-1)) })
	return p
}

func (w *writer) apat(size int) api.Pat {
	switch w.r.Intn(7) {
	case 0:
		return wild(w.emit("_"))
	case 1:
		return pint(3, w.emit("3"))
	case 2:
		return pcon("Unit", w.emit("(", ")"))
	case 3:
		name := w.up()
		return pcon(name, w.emit(name))
	case 4:
		if size > 0 {
			w.emit("(")
			p := w.pat(size - 1)
			w.emit(")")
			return p
		}
	}
	name := w.low()
	return pvar(name, w.emit(name))
}

func (w *writer) typ(size int) api.Type { return nested(w, size, w.function) }

func (w *writer) function(size int) api.Type {
	var t api.Type
	if w.r.Intn(2) == 0 {
		t = w.atype(size)
	} else {
		t = tc(w.up())
		w.emit(t.Name)
		w.repeat(0, func() { t.Kids = append(t.Kids, w.atype(size-1)) })
	}
	if w.r.Intn(3) == 0 {
		w.emit("->")
		return fun(t, w.typ(size-1))
	}
	return t
}

func (w *writer) atype(size int) api.Type {
	switch w.r.Intn(5) {
	case 0:
		w.emit("(", ")")
		return tc("Unit")
	case 1:
		if size > 0 {
			w.emit("(")
			t := w.typ(size - 1)
			w.emit(")")
			return t
		}
	case 2:
		t := tc(w.up())
		w.emit(t.Name)
		return t
	}
	t := tv(w.low())
	w.emit(t.Name)
	return t
}

// name makes the name of a value, and returns it with its first token.
func (w *writer) name() (string, int) {
	if w.r.Intn(3) == 0 {
		name := w.op()
		return name, w.emit("(", name, ")")
	}
	name := w.low()
	return name, w.emit(name)
}

func (w *writer) bind(size int) api.Bind {
	name, at := w.name()
	w.emit("=")
	return bind(name, at, w.exp(size))
}

func (w *writer) def(size int) api.Bind {
	w.emit("def")
	b := w.bind(size)
	w.emit(";")
	return b
}

// upper makes the name of a type, class or constructor, and returns it with its token.
func (w *writer) upper() (string, int) {
	name := w.up()
	return name, w.emit(name)
}

func (w *writer) data(size int) api.Data {
	w.emit("data")
	var d api.Data
	d.Name, d.At = w.upper()
	w.repeat(0, func() {
		d.Params = append(d.Params, w.low())
		w.emit(d.Params[len(d.Params)-1])
	})
	w.emit("=")
	w.separated("|", func() {
		var c api.Con
		c.Name, c.At = w.upper()
		w.repeat(0, func() { c.Args = append(c.Args, w.atype(size)) })
		d.Cons = append(d.Cons, c)
	})
	if w.r.Intn(2) == 0 {
		w.emit("deriving", "(")
		d.Deriv = w.uppers()
		w.emit(")")
	}
	w.emit(";")
	return d
}

// uppers makes one or several names with commas between.
func (w *writer) uppers() []string {
	var l []string
	w.separated(",", func() {
		name, _ := w.upper()
		l = append(l, name)
	})
	return l
}

func (w *writer) class(size int) api.Class {
	w.emit("class")
	var c api.Class
	c.Name, c.At = w.upper()
	c.Var = w.low()
	w.emit(c.Var)
	if w.r.Intn(2) == 0 {
		w.emit("from")
		c.Supers = w.uppers()
	}
	w.emit("where")
	w.repeat(0, func() {
		if w.r.Intn(2) == 0 {
			c.Defaults = append(c.Defaults, w.def(size))
			return
		}
		var m api.Method
		m.Name, m.At = w.name()
		w.emit(":")
		m.T = w.typ(size)
		w.emit(";")
		c.Methods = append(c.Methods, m)
	})
	w.emit("end", ";")
	return c
}

func (w *writer) instance(size int) api.Inst {
	w.emit("instance")
	var i api.Inst
	i.Class, i.At = w.upper()
	i.Head = w.atype(size)
	if w.r.Intn(2) == 0 {
		w.emit("from")
		w.separated(",", func() {
			class, _ := w.upper()
			name := w.low()
			w.emit(name)
			i.Ctx = append(i.Ctx, api.Pred{Class: class, T: tv(name)})
		})
	}
	w.emit("where")
	w.repeat(0, func() { i.Binds = append(i.Binds, w.def(size)) })
	w.emit("end", ";")
	return i
}

func (w *writer) prog(size int) api.Prog {
	var p api.Prog
	for range w.r.Intn(6) {
		switch w.r.Intn(5) {
		case 0:
			p.Datas = append(p.Datas, w.data(size))
		case 1:
			p.Classes = append(p.Classes, w.class(size))
		case 2:
			p.Insts = append(p.Insts, w.instance(size))
		default:
			p.Binds = append(p.Binds, w.def(size))
		}
	}
	return p
}

// blank returns arbitrary blanks: at least one if some must be there.
func blank(r *rand.Rand, must bool) string {
	l := []string{"", "", " ", "\n", "\t", "\r\n", "  ", "# ) end (\n", "#\n#\n", " # \" x\r\n"}
	if must {
		l = l[2:]
	}
	return l[r.Intn(len(l))]
}

// laid returns tokens with arbitrary blanks between them, and where each one stands, and the end.
func laid(r *rand.Rand, tokens []string) (string, []int) {
	var b strings.Builder
	var places []int
	// Before and after these, no blank is needed.
	alone := func(s string) bool { return s == "(" || s == ")" || s == "," || s == ";" || s == "\\" }
	for i, s := range tokens {
		b.WriteString(blank(r, i > 0 && !alone(s) && !alone(tokens[i-1])))
		places = append(places, b.Len())
		b.WriteString(s)
	}
	b.WriteString(blank(r, false))
	return b.String(), append(places, b.Len())
}

// placed turns the indices of tokens in x into their places.
func placed[T any](x T, places []int) T {
	visit(reflect.ValueOf(&x).Elem(), func(y reflect.Value) {
		if y.Kind() != reflect.Struct {
			return
		}
		if at := y.FieldByName("At"); at.IsValid() {
			at.SetInt(int64(places[at.Int()]))
		}
	})
	return x
}

// compare checks arbitrary sources of a kind: with as many brackets as dig says.
func compare[T any](t *testing.T, name string, read func(string) (T, api.Diag), write func(*writer, int) T, dig func(*rand.Rand) int) {
	found := map[api.Errno]int{}
	for seed := range int64(4000) {
		r := rand.New(rand.NewSource(seed))
		w := &writer{r: r}
		w.dig = dig(r)
		want := write(w, r.Intn(8))
		src, places := laid(r, w.tokens)
		found[w.first.Code]++
		if w.first != (api.Diag{}) {
			fails(t, read, src, w.first.Code, places[w.first.At])
		} else {
			comes(t, read, src, placed(want, places))
		}
		if t.Failed() {
			t.Fatalf("%s %d", name, seed)
		}
	}
	t.Log(name, found)
	if found[api.OK] < 800 {
		t.Errorf("%s: only %v", name, found)
	}
}

// P6.1 and P6.2: what arbitrary sources come to, or the first of ErrOps and ErrDeep.
func TestWritten(t *testing.T) {
	flat := func(*rand.Rand) int { return 0 }
	compare(t, "Exp", Exp, (*writer).exp, flat)
	compare(t, "Type", Type, (*writer).typ, flat)
	compare(t, "Prog", Prog, (*writer).prog, flat)
}

// P6.1 and P6.2: the same around MaxDeep.
func TestDeepWritten(t *testing.T) {
	deep := func(r *rand.Rand) int { return api.MaxDeep - 12 + r.Intn(15) }
	compare(t, "deep Exp", Exp, (*writer).exp, deep)
	compare(t, "deep Type", Type, (*writer).typ, deep)
	compare(t, "deep Prog", Prog, (*writer).prog, deep)
}

// P6.3: other blanks, and brackets around an expression, change nothing but At.
func TestBlanksAndBrackets(t *testing.T) {
	brackets := 0
	for seed := range int64(3000) {
		r := rand.New(rand.NewSource(seed))
		w := &writer{r: r}
		w.prog(r.Intn(5))
		first, _ := laid(r, w.tokens)
		second, _ := laid(r, w.tokens)
		got, d := Prog(first)
		other, otherD := Prog(second)
		if d.Code != otherD.Code || !tree.SameProg(got, other) {
			t.Fatalf("blanks: %q: %v, %q: %v", first, d, second, otherD)
		}
		if d != (api.Diag{}) || len(w.spans) == 0 {
			continue
		}
		for range 3 {
			s := w.spans[r.Intn(len(w.spans))]
			tokens := slices.Concat(w.tokens[:s[0]], []string{"("}, w.tokens[s[0]:s[1]], []string{")"}, w.tokens[s[1]:])
			src, _ := laid(r, tokens)
			if other, d := Prog(src); d != (api.Diag{}) || !tree.SameProg(got, other) {
				t.Fatalf("brackets: %q, %q: %v", first, src, d)
			}
			brackets++
		}
	}
	if brackets < 3000 {
		t.Errorf("only %d brackets", brackets)
	}
}

// moved returns a result whose source stands that much further behind.
func moved[T any](x T, by int) T {
	visit(reflect.ValueOf(&x).Elem(), func(y reflect.Value) {
		if y.Kind() != reflect.Struct {
			return
		}
		if at := y.FieldByName("At"); at.IsValid() {
			at.SetInt(at.Int() + int64(by))
		}
	})
	return x
}

// P6.3: the result for declarations, and their error, does not depend on those before them.
func TestDeclarationsStandAlone(t *testing.T) {
	errors := 0
	for seed := range int64(3000) {
		r := rand.New(rand.NewSource(seed))
		before, after := &writer{r: r}, &writer{r: r, dig: r.Intn(2) * (api.MaxDeep - 8)}
		before.prog(3)
		after.prog(3)
		a, _ := laid(r, before.tokens)
		b, _ := laid(r, after.tokens)
		first, d := Prog(a)
		second, e := Prog(b)
		if d != (api.Diag{}) {
			continue
		}
		got, f := Prog(a + "\n" + b)
		if e != (api.Diag{}) {
			errors++
			if f != (api.Diag{Code: e.Code, At: e.At + len(a) + 1}) {
				t.Fatalf("%q and %q: %v, not %v", a, b, f, e)
			}
			continue
		}
		second = moved(second, len(a)+1)
		want := api.Prog{Datas: append(first.Datas, second.Datas...), Classes: append(first.Classes, second.Classes...),
			Insts: append(first.Insts, second.Insts...), Binds: append(first.Binds, second.Binds...)}
		if f != (api.Diag{}) || !equal(got, want) {
			t.Fatalf("%q and %q: %v", a, b, f)
		}
	}
	if errors < 100 {
		t.Errorf("only %d errors", errors)
	}
}

// Each result is new, and no two lists of it share memory.
func TestResultsShareNothing(t *testing.T) {
	type area struct{ from, to uintptr }
	for seed := range int64(300) {
		r := rand.New(rand.NewSource(seed))
		w := &writer{r: r}
		w.prog(5)
		src, _ := laid(r, w.tokens)
		got, _ := Prog(src)
		again, _ := Prog(src)
		var l []area
		for _, p := range []*api.Prog{&got, &again} {
			visit(reflect.ValueOf(p).Elem(), func(y reflect.Value) {
				if y.Kind() == reflect.Slice && y.Cap() > 0 {
					l = append(l, area{y.Pointer(), y.Pointer() + uintptr(y.Cap())*y.Type().Elem().Size()})
				}
			})
		}
		slices.SortFunc(l, func(a, b area) int {
			if a.from < b.from {
				return -1
			}
			return 1
		})
		for i := 1; i < len(l); i++ {
			if l[i].from < l[i-1].to {
				t.Fatalf("lists of %q share memory", src)
			}
		}
	}
}
