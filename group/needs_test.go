package group

import (
	"reflect"
	"strconv"
	"strings"
	"testing"

	"cognate/api"
	"cognate/parse"
)

// binds returns the binds of a source.
func binds(t *testing.T, source string) []api.Bind {
	t.Helper()
	p, d := parse.Prog(source)
	if d != (api.Diag{}) {
		t.Fatal(source, d)
	}
	return p.Binds
}

// P10.2: which binds are free in each expression, in the order of the free names; and the groups.
func TestNeeds(t *testing.T) {
	for _, x := range []struct {
		source      string
		needs, want [][]int
	}{
		{"", nil, nil},
		{"def a = 1;", [][]int{nil}, [][]int{{0}}},
		{"def a = a;", [][]int{{0}}, [][]int{{0}}},
		{"def a = \\a -> a;", [][]int{nil}, [][]int{{0}}},
		{"def a = f (g Nil \"b\"); def b = Some a;", [][]int{nil, {0}}, [][]int{{0}, {1}}},
		{"def a = b; def b = 1;", [][]int{{1}, nil}, [][]int{{1}, {0}}},
		{"def a = \\x -> b x; def b = \\x -> a x;", [][]int{{1}, {0}}, [][]int{{0, 1}}},
		// In the order of their first occurrence, each once.
		{"def a = d b d c b a; def b = 1; def c = a; def d = 2;", [][]int{{3, 1, 2, 0}, nil, {0}, nil}, [][]int{{1}, {3}, {0, 2}}},
		{"def a = z c y b x c; def b = 1; def c = 2;", [][]int{{2, 1}, nil, nil}, [][]int{{1}, {2}, {0}}},
		// Bound names: of functions, lets and patterns.
		{"def a = \\b -> c b; def b = 1; def c = \\b a -> a b d; def d = 0;", [][]int{{2}, nil, {3}, nil}, [][]int{{1}, {3}, {2}, {0}}},
		{"def a = (\\b -> b) b; def b = 1;", [][]int{{1}, nil}, [][]int{{1}, {0}}},
		{"def a = let b = c in b; def b = 1; def c = 2;", [][]int{{2}, nil, nil}, [][]int{{1}, {2}, {0}}},
		{"def a = let b = b in b; def b = 1;", [][]int{{1}, nil}, [][]int{{1}, {0}}},
		{"def a = let rec b = \\x -> b x in b; def b = 1;", [][]int{nil, nil}, [][]int{{0}, {1}}},
		{"def a = let rec b = \\x -> c x and c = \\x -> b d in b; def b = 1; def c = 2; def d = 3;", [][]int{{3}, nil, nil, nil}, [][]int{{1}, {2}, {3}, {0}}},
		{"def a = case b of Cons b c -> b c d | d -> c d | _ -> d end; def b = 1; def c = 2; def d = 3;", [][]int{{1, 3, 2}, nil, nil, nil}, [][]int{{1}, {2}, {3}, {0}}},
		// Parts of every other kind.
		{"def a = if d then c else b; def b = 1; def c = 2; def d = 3;", [][]int{{3, 2, 1}, nil, nil, nil}, [][]int{{1}, {2}, {3}, {0}}},
		{"def a = c && b || d; def b = 1; def c = 2; def d = 3;", [][]int{{2, 1, 3}, nil, nil, nil}, [][]int{{1}, {2}, {3}, {0}}},
		{"def a = (b : Int); def b = 1;", [][]int{{1}, nil}, [][]int{{1}, {0}}},
		{"def a = (\\x -> x : a -> b); def b = 1;", [][]int{nil, nil}, [][]int{{0}, {1}}},
		{"def a = b + 1; def b = 1;", [][]int{{1}, nil}, [][]int{{1}, {0}}},
		// Of several binds of one name the first one counts.
		{"def a = b; def b = a; def b = b; def a = a;", [][]int{{1}, {0}, {1}, {0}}, [][]int{{0, 1}, {2}, {3}}},
		{"def a = b; def b = 1; def b = a; def a = c; def c = b;", [][]int{{1}, nil, {0}, {4}, {1}}, [][]int{{1}, {0}, {2}, {4}, {3}}},
		{"def b = 1; def b = b; def b = b;", [][]int{nil, {0}, {0}}, [][]int{{0}, {1}, {2}}},
		// The order of groups.
		{"def odd = \\n -> even (sub n); def sub = \\n -> n; def even = \\n -> odd (sub n); def a = even b; def b = a;", [][]int{{2, 1}, nil, {0, 1}, {2, 4}, {3}}, [][]int{{1}, {0, 2}, {3, 4}}},
	} {
		l := binds(t, x.source)
		checkNeeds(t, x.source, l, x.needs, x.want)
		if !reflect.DeepEqual(l, binds(t, x.source)) {
			t.Errorf("%s: Needs or Of has changed it", x.source)
		}
	}
}

// checkNeeds checks what Needs and Of return for binds.
func checkNeeds(t *testing.T, what string, l []api.Bind, needs, want [][]int) {
	t.Helper()
	got, groups := Needs(l), Of(l)
	if !equal(got, needs) || !equal(groups, want) {
		t.Errorf("%s: %v, %v; not %v, %v", what, got, groups, needs, want)
	}
}

// P10.2: binds that no source can contain.
func TestOddBinds(t *testing.T) {
	v := func(name string) api.Exp { return api.Exp{Kind: api.EVar, Name: name} }
	l := []api.Bind{{}, {Name: "a", E: v("")}, {Name: "", E: v("a")}, {Name: "A", E: api.Exp{Kind: api.ECon, Name: "A"}}, {Name: "s", E: api.Exp{Kind: api.EStr, Name: "s"}}, {Name: "b", E: v("A")}}
	kept := append([]api.Bind(nil), l...)
	checkNeeds(t, "odd binds", l, [][]int{nil, {0}, {1}, nil, nil, {3}}, [][]int{{0}, {1}, {2}, {3}, {4}, {5}})
	if !reflect.DeepEqual(l, kept) {
		t.Errorf("Needs and Of have made %v of %v", l, kept)
	}
	checkNeeds(t, "no binds", nil, nil, nil)
	checkNeeds(t, "no binds", []api.Bind{}, nil, nil)
}

// P10.2: many binds, and many of one name.
func TestManyBinds(t *testing.T) {
	var source strings.Builder
	const count = 2000
	for i := range count {
		source.WriteString("def a" + strconv.Itoa(i) + " = f a" + strconv.Itoa((i+1)%count) + ";")
	}
	l := binds(t, source.String())
	checkNeeds(t, "a circle", l, needing(count, func(i int) []int { return []int{(i + 1) % count} }), [][]int{upTo(count)})
	for i := range l {
		l[i].Name = "a1"
	}
	checkNeeds(t, "one name", l, needing(count, func(i int) []int { return upTo(1)[:max(0, 1-i)] }), each(upTo(count)))
}
