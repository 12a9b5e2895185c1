package types

import (
	"math"
	"math/rand"
	"reflect"
	"slices"
	"strconv"
	"strings"
	"testing"

	"cognate/api"
)

// The types of the tests are written without the functions under test.

func v(name string) api.Type { return api.Type{Kind: api.TVar, Name: name} }

func m(n int) api.Type { return api.Type{Kind: api.TMeta, N: n} }

func con(name string, kids ...api.Type) api.Type {
	return api.Type{Kind: api.TCon, Name: name, Kids: kids}
}

// fn is the type of a function of all but the last type.
func fn(ts ...api.Type) api.Type {
	t := ts[len(ts)-1]
	for _, arg := range slices.Backward(ts[:len(ts)-1]) {
		t = con("->", arg, t)
	}
	return t
}

// text writes every field of a type.
func text(t api.Type) string {
	s := strconv.Itoa(t.Kind) + ":" + strconv.Quote(t.Name) + ":" + strconv.Itoa(t.N)
	return s + texts(t.Kids)
}

func texts(l []api.Type) string {
	var s []string
	for _, t := range l {
		s = append(s, text(t))
	}
	return "[" + strings.Join(s, " ") + "]"
}

// check reports a type that is not as expected.
func check(t *testing.T, what string, got, want api.Type) {
	t.Helper()
	if text(got) != text(want) {
		t.Errorf("%s = %s, want %s", what, text(got), text(want))
	}
}

// copied returns t in memory of its own.
func copied(t api.Type) api.Type {
	t.Kids = copiedList(t.Kids)
	return t
}

func copiedList(l []api.Type) []api.Type {
	if l == nil {
		return nil
	}
	c := make([]api.Type, len(l))
	for i, t := range l {
		c[i] = copied(t)
	}
	return c
}

var (
	a, b, c = v("a"), v("b"), v("c")
	num     = con("Int")
)

func list(t api.Type) api.Type { return con("List", t) }

// P8.1
func TestFunAndCon(t *testing.T) {
	arrow := func(x, y api.Type) api.Type {
		return api.Type{Kind: api.TCon, Name: "->", Kids: []api.Type{x, y}}
	}
	check(t, "Fun", Fun(num, a), arrow(num, a))
	check(t, "Fun of functions", Fun(Fun(a, m(1)), Fun(b, c)), arrow(arrow(a, m(1)), arrow(b, c)))
	check(t, "Fun of nothing", Fun(api.Type{}, api.Type{}), arrow(api.Type{}, api.Type{}))
	for _, kids := range [][]api.Type{nil, {}, {a}, {a, m(-3)}, {list(a), b, num, fn(a, b)}, slices.Repeat([]api.Type{a}, 1000)} {
		for _, name := range []string{"List", "->", "", "x y"} {
			check(t, "Con", Con(name, kids...), api.Type{Kind: api.TCon, Name: name, Kids: kids})
		}
	}
	kids := []api.Type{a, b}
	pair := Con("Pair", kids...)
	kids[0] = num
	check(t, "Con after a change of the caller's list", pair, con("Pair", a, b))
}

// P8.1
func TestArgs(t *testing.T) {
	three := con("->", a, b, c)
	strange := api.Type{Kind: api.TVar, Name: "->", Kids: []api.Type{a, b}}
	for _, x := range []struct {
		t    api.Type
		args []api.Type
		last api.Type
	}{
		{fn(a, b, c), []api.Type{a, b}, c}, {fn(num, num), []api.Type{num}, num}, {fn(a, m(2), list(a), num, m(3)), []api.Type{a, m(2), list(a), num}, m(3)},
		// Functions among the arguments stay whole.
		{fn(fn(a, b), c), []api.Type{fn(a, b)}, c}, {fn(fn(a, b, c), list(fn(a, b))), []api.Type{fn(a, b, c)}, list(fn(a, b))},
		// No function types.
		{num, nil, num}, {a, nil, a}, {m(0), nil, m(0)}, {api.Type{}, nil, api.Type{}}, {list(fn(a, b)), nil, list(fn(a, b))}, {con("=>", a, b), nil, con("=>", a, b)},
		{con("->"), nil, con("->")}, {con("->", a), nil, con("->", a)}, {three, nil, three}, {strange, nil, strange}, {fn(a, three), []api.Type{a}, three}, {fn(a, b, strange), []api.Type{a, b}, strange},
	} {
		args, last := Args(x.t)
		if texts(args) != texts(x.args) || text(last) != text(x.last) {
			t.Errorf("Args of %s = %s, %s", text(x.t), texts(args), text(last))
		}
	}
}

// P8.1
func TestVarsMetasAndSize(t *testing.T) {
	for _, x := range []struct {
		t     api.Type
		vars  []string
		metas []int
		size  int
	}{
		{api.Type{}, nil, nil, 1}, {num, nil, nil, 1}, {a, []string{"a"}, nil, 1}, {m(0), nil, []int{0}, 1}, {v(""), []string{""}, nil, 1},
		{fn(a, b, a), []string{"a", "b"}, nil, 5}, {fn(b, a, b), []string{"b", "a"}, nil, 5}, {fn(m(3), m(3)), nil, []int{3}, 3}, {fn(m(7), m(-7), m(7), m(0)), nil, []int{7, -7, 0}, 7},
		{con("T", list(c), m(2), fn(b, m(1), c), a), []string{"c", "b", "a"}, []int{2, 1}, 10}, {con("T", con("a"), list(con("b"))), nil, nil, 4},
		// Left before right, and the inner ones of a Kid before the next Kid.
		{fn(fn(fn(a, b), c), v("d")), []string{"a", "b", "c", "d"}, nil, 7}, {con("T", con("U", con("V", m(4)), m(3)), m(2)), nil, []int{4, 3, 2}, 6},
		// Only the field of the kind counts.
		{con("T", api.Type{Kind: api.TVar, Name: "x", N: 5}, api.Type{Kind: api.TMeta, Name: "y", N: 6}), []string{"x"}, []int{6}, 3},
		{con("T", a, a, a, m(1), m(1), m(1)), []string{"a"}, []int{1}, 7},
	} {
		if got := Vars(x.t); !slices.Equal(got, x.vars) {
			t.Errorf("Vars of %s = %q", text(x.t), got)
		}
		if got := Metas(x.t); !slices.Equal(got, x.metas) {
			t.Errorf("Metas of %s = %d", text(x.t), got)
		}
		if got := Size(x.t); got != x.size {
			t.Errorf("Size of %s = %d", text(x.t), got)
		}
	}
}

// P8.2
func TestPut(t *testing.T) {
	for i, x := range []struct {
		names   []string
		ts      []api.Type
		t, want api.Type
	}{
		{[]string{"a"}, []api.Type{num}, fn(a, b, a), fn(num, b, num)}, {[]string{"a", "b"}, []api.Type{num, list(c)}, con("T", list(a), b, c), con("T", list(num), list(c), c)},
		{[]string{"a"}, []api.Type{fn(a, b)}, a, fn(a, b)},
		// Replacements stay as they are.
		{[]string{"a", "b"}, []api.Type{b, a}, fn(a, b), fn(b, a)}, {[]string{"a"}, []api.Type{list(a)}, list(a), list(list(a))}, {[]string{"a", "b", "c"}, []api.Type{fn(b, c), c, num}, fn(a, b, c), fn(fn(b, c), c, num)},
		// The first occurrence of a name counts.
		{[]string{"a", "a"}, []api.Type{num, b}, a, num}, {[]string{"b", "a", "b", "a", "b"}, []api.Type{c, m(1), num, num, num}, fn(a, b), fn(m(1), c)}, {[]string{"a", "a"}, []api.Type{num}, a, num},
		// Names without a type, types without a name.
		{[]string{"a", "b"}, []api.Type{num}, fn(a, b), fn(num, b)}, {[]string{"a"}, nil, a, a}, {[]string{"b", "a"}, []api.Type{num}, a, a}, {nil, []api.Type{num}, a, a}, {[]string{"a"}, []api.Type{num, list(b), m(1)}, fn(a, b), fn(num, b)},
		// Names that do not occur.
		{nil, nil, fn(a, m(0), num), fn(a, m(0), num)}, {[]string{"c", "", "A"}, []api.Type{num, num, num}, fn(a, b), fn(a, b)}, {[]string{""}, []api.Type{num}, fn(v(""), m(0)), fn(num, m(0))},
		// Only variables have the names, and all that is not replaced stays.
		{[]string{"Int", "List", "->", ""}, []api.Type{a, a, a, a}, fn(list(num), m(0)), fn(list(num), m(0))}, {[]string{"a"}, []api.Type{num}, api.Type{Kind: api.TMeta, Name: "a", N: 4}, api.Type{Kind: api.TMeta, Name: "a", N: 4}},
		{[]string{"a"}, []api.Type{num}, api.Type{Kind: 9, Name: "a", N: 4, Kids: []api.Type{a, b}}, api.Type{Kind: 9, Name: "a", N: 4, Kids: []api.Type{num, b}}}, {[]string{"a"}, []api.Type{{}}, list(a), list(api.Type{})}, {[]string{""}, []api.Type{num}, api.Type{}, api.Type{}},
	} {
		check(t, strconv.Itoa(i)+": Put", Put(x.names, x.ts, x.t), x.want)
	}
}

// P8.2
func TestApply(t *testing.T) {
	for i, x := range []struct {
		l       []api.Sub
		t, want api.Type
	}{
		{[]api.Sub{{N: 3, T: num}}, list(m(3)), list(num)}, {[]api.Sub{{N: 3, T: num}, {N: 0, T: fn(a, m(3))}}, con("T", m(0), list(m(3)), m(1), a), con("T", fn(a, m(3)), list(num), m(1), a)}, {[]api.Sub{{N: 0, T: fn(a, b)}}, m(0), fn(a, b)},
		// Replacements stay as they are.
		{[]api.Sub{{N: 0, T: m(1)}, {N: 1, T: m(0)}}, fn(m(0), m(1)), fn(m(1), m(0))}, {[]api.Sub{{N: 2, T: list(m(2))}}, list(m(2)), list(list(m(2)))}, {[]api.Sub{{N: 1, T: m(2)}, {N: 2, T: m(3)}, {N: 3, T: num}}, fn(m(1), m(2), m(3)), fn(m(2), m(3), num)},
		// The first element for a meta counts.
		{[]api.Sub{{N: 5, T: num}, {N: 5, T: a}, {N: 4, T: b}, {N: 5, T: c}}, fn(m(5), m(4)), fn(num, b)},
		// Metas that do not occur, and odd numbers.
		{nil, fn(a, m(0), num), fn(a, m(0), num)}, {[]api.Sub{{N: 1, T: num}}, m(0), m(0)}, {[]api.Sub{{N: -1, T: num}, {N: math.MaxInt, T: a}, {N: math.MinInt, T: b}}, con("T", m(-1), m(math.MaxInt), m(math.MinInt), m(1)), con("T", num, a, b, m(1))},
		// Only metas have the numbers, and all that is not replaced stays.
		{[]api.Sub{{N: 0, T: num}}, fn(a, list(b), con("Int")), fn(a, list(b), con("Int"))}, {[]api.Sub{{N: 4, T: num}}, api.Type{Kind: api.TVar, Name: "a", N: 4}, api.Type{Kind: api.TVar, Name: "a", N: 4}},
		{[]api.Sub{{N: 4, T: num}}, api.Type{Kind: 9, Name: "a", N: 4, Kids: []api.Type{m(4), b}}, api.Type{Kind: 9, Name: "a", N: 4, Kids: []api.Type{num, b}}}, {[]api.Sub{{N: 0, T: num}}, api.Type{}, api.Type{}}, {[]api.Sub{{N: 0}}, list(m(0)), list(api.Type{})},
	} {
		check(t, strconv.Itoa(i)+": Apply", Apply(x.l, x.t), x.want)
	}
}

// P8.3
func TestMatch(t *testing.T) {
	for i, x := range []struct {
		general, special api.Type
		names            []string
		ts               []api.Type
	}{
		{fn(a, a), fn(num, num), []string{"a"}, []api.Type{num}}, {a, fn(b, m(1)), []string{"a"}, []api.Type{fn(b, m(1))}}, {fn(b, a, list(b)), fn(num, m(2), list(num)), []string{"b", "a"}, []api.Type{num, m(2)}},
		// The variables of the special type stand for themselves.
		{fn(a, b), fn(b, a), []string{"a", "b"}, []api.Type{b, a}}, {fn(a, b), fn(a, b), []string{"a", "b"}, []api.Type{a, b}}, {fn(a, b), fn(c, c), []string{"a", "b"}, []api.Type{c, c}}, {a, list(a), []string{"a"}, []api.Type{list(a)}},
		{con("T", a, b, a), con("T", fn(a, b), a, fn(a, b)), []string{"a", "b"}, []api.Type{fn(a, b), a}},
		// Without variables.
		{num, num, nil, nil}, {m(3), m(3), nil, nil}, {fn(m(0), list(num)), fn(m(0), list(num)), nil, nil}, {con("T"), con("T", []api.Type{}...), nil, nil}, {api.Type{}, api.Type{}, nil, nil},
		{v(""), num, []string{""}, []api.Type{num}}, {a, api.Type{}, []string{"a"}, []api.Type{{}}}, {api.Type{Kind: 9, Name: "a", N: 4, Kids: []api.Type{a}}, api.Type{Kind: 9, Name: "a", N: 4, Kids: []api.Type{num}}, []string{"a"}, []api.Type{num}},
	} {
		names, ts, ok := Match(x.general, x.special)
		if !ok || !slices.Equal(names, x.names) || texts(ts) != texts(x.ts) {
			t.Errorf("%d: Match = %q, %s, %t", i, names, texts(ts), ok)
		}
	}
}

// P8.3: types that are not equal.
func TestMatchOfDifferent(t *testing.T) {
	odd := func(kind int, name string, n int) api.Type { return api.Type{Kind: kind, Name: name, N: n} }
	var pairs [][2]api.Type
	for _, x := range [][2]api.Type{
		{num, con("Bool")}, {num, a}, {num, m(0)}, {m(0), num}, {m(0), m(1)}, {m(0), a}, {list(a), num}, {list(a), b}, {list(a), con("Set", num)}, {num, list(num)}, {list(num), num},
		{con("T", a, b), con("T", num)}, {con("T", a), con("T", num, num)}, {fn(a, b), num}, {con("T"), con("T", a)},
		{odd(api.TMeta, "x", 1), odd(api.TMeta, "y", 1)}, {odd(api.TCon, "T", 1), odd(api.TCon, "T", 2)}, {odd(api.TCon, "T", 0), odd(api.TMeta, "T", 0)}, {odd(api.TCon, "a", 0), odd(api.TVar, "a", 0)}, {odd(0, "", 0), odd(4, "", 0)},
	} {
		pairs = append(pairs, x)
		// Nor are those that contain them, before or after others, nor those in which one variable would be both.
		pairs = append(pairs, [2]api.Type{con("T", x[0], b, num), con("T", x[1], c, num)}, [2]api.Type{con("T", b, x[0]), con("T", c, x[1])}, [2]api.Type{con("T", v("x"), v("x")), con("T", x[0], x[1])}, [2]api.Type{fn(v("x"), list(v("x"))), fn(x[1], list(x[0]))})
	}
	pairs = append(pairs, [2]api.Type{fn(a, a), fn(num, b)}, [2]api.Type{fn(a, a), fn(b, c)}, [2]api.Type{fn(a, b, a), fn(num, num, a)}, [2]api.Type{fn(a, list(a)), fn(list(a), list(a))})
	for _, x := range pairs {
		if names, ts, ok := Match(x[0], x[1]); ok || len(names) > 0 || len(ts) > 0 {
			t.Errorf("Match of %s and %s = %q, %s, %t", text(x[0]), text(x[1]), names, texts(ts), ok)
		}
	}
}

// P8.3
func TestLetter(t *testing.T) {
	for _, x := range []struct {
		i    int
		want string
	}{
		{0, "a"}, {1, "b"}, {25, "z"}, {26, "a1"}, {27, "b1"}, {51, "z1"}, {52, "a2"}, {259, "z9"}, {260, "a10"}, {26*123 + 4, "e123"}, {-1, ""}, {-26, ""}, {math.MinInt, ""}, {math.MaxInt, "h354745078340568300"},
	} {
		if got := Letter(x.i); got != x.want {
			t.Errorf("Letter of %d = %q, want %q", x.i, got, x.want)
		}
	}
	i := 0
	for round := range 2000 {
		for letter := 'a'; letter <= 'z'; letter++ {
			want := string(letter)
			if round > 0 {
				want += strconv.Itoa(round)
			}
			if got := Letter(i); got != want {
				t.Fatalf("Letter of %d = %q, want %q", i, got, want)
			}
			i++
		}
	}
}

// some returns an arbitrary type; if wide, also of other kinds, with fields that its kind does not have.
func some(r *rand.Rand, levels int, wide bool) api.Type {
	if wide && r.Intn(4) == 0 {
		return api.Type{Kind: []int{0, 3, 4, -1}[r.Intn(4)], Name: string("abT"[r.Intn(3)]), N: r.Intn(3), Kids: someList(r, levels-1, wide)}
	}
	switch r.Intn(4) {
	case 0:
		return v(string("abcd"[r.Intn(4)]))
	case 1:
		return m(r.Intn(4) - 1)
	}
	return con(string("TUa"[r.Intn(3)]), someList(r, levels-1, wide)...)
}

func someList(r *rand.Rand, levels int, wide bool) []api.Type {
	var l []api.Type
	if levels > 0 {
		for range r.Intn(4) {
			l = append(l, some(r, levels, wide))
		}
	}
	return l
}

// flat returns t and all its parts, in order.
func flat(t api.Type) []api.Type {
	l := []api.Type{t}
	for _, kid := range t.Kids {
		l = append(l, flat(kid)...)
	}
	return l
}

// mapped returns t with f of every variable and meta in its place.
func mapped(t api.Type, f func(api.Type) api.Type) api.Type {
	if t.Kind == api.TVar || t.Kind == api.TMeta {
		return f(t)
	}
	t.Kids = slices.Clone(t.Kids)
	for i := range t.Kids {
		t.Kids[i] = mapped(t.Kids[i], f)
	}
	return t
}

// samples calls check with so many random sources and sorts of types, always the same.
func samples(count int, check func(r *rand.Rand, wide bool)) {
	r := rand.New(rand.NewSource(8))
	for n := range count {
		check(r, n%2 == 1)
	}
}

// P8.1: the queries against a literal model.
func TestQueriesAgainstModel(t *testing.T) {
	vars := 0
	samples(20000, func(r *rand.Rand, wide bool) {
		x := some(r, 4, wide)
		var names []string
		var metas []int
		for _, part := range flat(x) {
			if part.Kind == api.TVar && !slices.Contains(names, part.Name) {
				names = append(names, part.Name)
			}
			if part.Kind == api.TMeta && !slices.Contains(metas, part.N) {
				metas = append(metas, part.N)
			}
		}
		before := copied(x)
		if got := Vars(x); !slices.Equal(got, names) {
			t.Fatalf("Vars of %s = %q, want %q", text(x), got, names)
		}
		if got := Metas(x); !slices.Equal(got, metas) {
			t.Fatalf("Metas of %s = %d, want %d", text(x), got, metas)
		}
		if got := Size(x); got != len(flat(x)) {
			t.Fatalf("Size of %s = %d, want %d", text(x), got, len(flat(x)))
		}
		if !reflect.DeepEqual(x, before) {
			t.Fatalf("changed: %s, once %s", text(x), text(before))
		}
		vars += len(names)
	})
	if vars < 10000 {
		t.Errorf("only %d variables", vars)
	}
}

// P8.2: the substitutions against a literal model.
func TestSubstitutionsAgainstModel(t *testing.T) {
	samples(20000, func(r *rand.Rand, wide bool) {
		x := some(r, 4, wide)
		ts := someList(r, 3, wide)
		var names []string
		for range r.Intn(6) {
			names = append(names, string("abcd"[r.Intn(4)]))
		}
		var l []api.Sub
		for range r.Intn(4) {
			l = append(l, api.Sub{N: r.Intn(4) - 1, T: some(r, 2, wide)})
		}
		put := mapped(x, func(part api.Type) api.Type {
			if i := slices.Index(names, part.Name); part.Kind == api.TVar && i >= 0 && i < len(ts) {
				return ts[i]
			}
			return part
		})
		applied := mapped(x, func(part api.Type) api.Type {
			if i := slices.IndexFunc(l, func(s api.Sub) bool { return s.N == part.N }); part.Kind == api.TMeta && i >= 0 {
				return l[i].T
			}
			return part
		})
		x0, ts0, names0, l0 := copied(x), copiedList(ts), slices.Clone(names), slices.Clone(l)
		for i := range l0 {
			l0[i].T = copied(l[i].T)
		}
		if got := Put(names, ts, x); text(got) != text(put) {
			t.Fatalf("Put of %q, %s, %s = %s, want %s", names, texts(ts), text(x), text(got), text(put))
		}
		if got := Apply(l, x); text(got) != text(applied) {
			t.Fatalf("Apply of %v, %s = %s, want %s", l, text(x), text(got), text(applied))
		}
		if !reflect.DeepEqual(x, x0) || !reflect.DeepEqual(ts, ts0) || !slices.Equal(names, names0) || !reflect.DeepEqual(l, l0) {
			t.Fatalf("an argument of Put or Apply has been changed: %s", text(x0))
		}
	})
}

// at returns the part of special where name first occurs in general.
func at(general, special api.Type, name string) (api.Type, bool) {
	if general.Kind == api.TVar {
		return special, general.Name == name
	}
	for i := range min(len(general.Kids), len(special.Kids)) {
		if t, ok := at(general.Kids[i], special.Kids[i], name); ok {
			return t, true
		}
	}
	return api.Type{}, false
}

// P8.3 and P8.4: the types that match can only be those at the first occurrences.
func TestMatchAgainstModel(t *testing.T) {
	var matches [2]int
	samples(40000, func(r *rand.Rand, wide bool) {
		general, special := some(r, 4, wide), some(r, 4, wide)
		if r.Intn(3) > 0 {
			// Mostly equal but for one part.
			same := someList(r, 3, wide)
			special = mapped(general, func(t api.Type) api.Type {
				i := strings.Index("abcd", t.Name)
				if t.Kind == api.TVar && i < len(same) && r.Intn(10) > 0 {
					return same[i]
				}
				return t
			})
		}
		var want []api.Type
		for _, name := range Vars(general) {
			x, _ := at(general, special, name)
			want = append(want, x)
		}
		fits := text(Put(Vars(general), want, general)) == text(special)
		general0, special0 := copied(general), copied(special)
		names, ts, ok := Match(general, special)
		switch {
		case ok != fits:
			t.Fatalf("Match of %s and %s = %t", text(general), text(special), ok)
		case ok && (!slices.Equal(names, Vars(general)) || texts(ts) != texts(want)), !ok && len(names)+len(ts) > 0:
			t.Fatalf("Match of %s and %s = %q, %s", text(general), text(special), names, texts(ts))
		case !reflect.DeepEqual(general, general0) || !reflect.DeepEqual(special, special0):
			t.Fatalf("Match changes %s or %s", text(general0), text(special0))
		}
		if ok {
			matches[0]++
		} else {
			matches[1]++
		}
	})
	if matches[0] < 5000 || matches[1] < 5000 {
		t.Errorf("%d matches, %d others", matches[0], matches[1])
	}
}

// P8.4
func TestLaws(t *testing.T) {
	samples(10000, func(r *rand.Rand, wide bool) {
		general := some(r, 4, wide)
		names := Vars(general)
		var ts []api.Type
		for range names {
			ts = append(ts, some(r, 3, wide))
		}
		special := Put(names, ts, general)
		gotNames, gotTs, ok := Match(general, special)
		if !ok || !slices.Equal(gotNames, names) || texts(gotTs) != texts(ts) {
			t.Fatalf("Match of %s and %s = %q, %s, %t", text(general), text(special), gotNames, texts(gotTs), ok)
		}
		check(t, "Put of the result of Match", Put(gotNames, gotTs, general), special)
		check(t, "Put for names that do not occur", Put([]string{"x", "T", "Int", ""}, []api.Type{num, a, b, m(0)}, general), general)
		check(t, "Apply for metas that do not occur", Apply([]api.Sub{{N: 7, T: num}, {N: -2, T: a}}, general), general)
		check(t, "Apply of metas for themselves", Apply([]api.Sub{{N: 0, T: m(0)}, {N: 1, T: m(1)}}, general), general)
		args, last := Args(general)
		check(t, "the function of Args", fn(append(args, last)...), general)
	})
}

// levels is how deep the document lets types be nested.
const levels = 1 << 16

// Types as deep as the document lets them be.
func TestDeep(t *testing.T) {
	right, left, special := a, m(0), num
	for range levels - 1 {
		right, left, special = Fun(b, right), Fun(left, c), Fun(list(num), special)
	}
	if args, last := Args(right); len(args) != levels-1 || last.Name != "a" || args[levels-2].Name != "b" {
		t.Errorf("Args = %d, %s", len(args), text(last))
	}
	if args, last := Args(left); len(args) != 1 || last.Name != "c" {
		t.Errorf("Args = %d, %s", len(args), text(last))
	}
	if got := []int{Size(right), Size(left), Size(special)}; !slices.Equal(got, []int{2*levels - 1, 2*levels - 1, 3*levels - 2}) {
		t.Errorf("Size = %d", got)
	}
	if got := Vars(right); !slices.Equal(got, []string{"b", "a"}) {
		t.Errorf("Vars = %q", got)
	}
	if got := Metas(left); !slices.Equal(got, []int{0}) {
		t.Errorf("Metas = %d", got)
	}
	names, ts, ok := Match(right, special)
	if !ok || !slices.Equal(names, []string{"b", "a"}) || texts(ts) != texts([]api.Type{list(num), num}) {
		t.Errorf("Match = %q, %s, %t", names, texts(ts), ok)
	}
	if got := Put(names, ts, right); !reflect.DeepEqual(got, special) {
		t.Error("Put differs")
	}
	if got := Metas(Apply([]api.Sub{{N: 0, T: m(1)}}, left)); !slices.Equal(got, []int{1}) {
		t.Errorf("Metas = %d", got)
	}
	if _, _, ok := Match(right, left); ok {
		t.Error("Match of different ones")
	}
	if _, _, ok := Match(fn(a, a), fn(special, special)); !ok {
		t.Error("no Match of equal ones")
	}
}

// Types with very many parts, under very many names.
func TestWide(t *testing.T) {
	const count = 200000
	var names []string
	var metas []int
	var ts, ms, vs []api.Type
	var l []api.Sub
	for i := range count {
		names, metas = append(names, Letter(i)), append(metas, count-i)
		ts, ms, vs = append(ts, con(Letter(i))), append(ms, m(count-i)), append(vs, v(Letter(i)))
		l = append(l, api.Sub{N: count - i, T: ts[i]})
	}
	general, special := con("T", append(vs, vs...)...), con("T", append(ts, ts...)...)
	if got := Vars(general); !slices.Equal(got, names) {
		t.Error("Vars differ")
	}
	if got := Metas(con("T", ms...)); !slices.Equal(got, metas) {
		t.Error("Metas differ")
	}
	if got := Put(names, ts, general); !reflect.DeepEqual(got, special) {
		t.Error("Put differs")
	}
	if got := Apply(l, con("T", ms...)); !reflect.DeepEqual(got.Kids, ts) {
		t.Error("Apply differs")
	}
	gotNames, gotTs, ok := Match(general, special)
	if !ok || !slices.Equal(gotNames, names) || !reflect.DeepEqual(gotTs, ts) {
		t.Error("Match differs")
	}
	special.Kids[2*count-1] = num
	if _, _, ok := Match(general, special); ok {
		t.Error("Match of a variable that is two types")
	}
}
