package unify

import (
	"math"
	"reflect"
	"slices"
	"strconv"
	"strings"
	"testing"

	"cognate/api"
)

func v(name string) api.Type { return api.Type{Kind: api.TVar, Name: name} }

func m(n int) api.Type { return api.Type{Kind: api.TMeta, N: n} }

func con(name string, kids ...api.Type) api.Type {
	return api.Type{Kind: api.TCon, Name: name, Kids: kids}
}

func fn(a, b api.Type) api.Type { return con("->", a, b) }

func list(t api.Type) api.Type { return con("List", t) }

func odd(kind int, name string, n int, kids ...api.Type) api.Type {
	return api.Type{Kind: kind, Name: name, N: n, Kids: kids}
}

var num, yes = con("Int"), con("Bool")

// pairs makes pairs of types, of which each two go together.
func pairs(ts ...api.Type) []api.Pair {
	var l []api.Pair
	for p := range slices.Chunk(ts, 2) {
		l = append(l, api.Pair{A: p[0], B: p[1]})
	}
	return l
}

// text writes every field of a type.
func text(t api.Type) string {
	var b strings.Builder
	var write func(api.Type)
	write = func(t api.Type) {
		b.WriteString(strconv.Itoa(t.Kind) + ":" + strconv.Quote(t.Name) + ":" + strconv.Itoa(t.N) + "[")
		for _, kid := range t.Kids {
			write(kid)
		}
		b.WriteString("]")
	}
	write(t)
	return b.String()
}

func pairsText(l []api.Pair) string {
	var s []string
	for _, p := range l {
		s = append(s, text(p.A)+" = "+text(p.B))
	}
	return strings.Join(s, ", ")
}

func subsText(l []api.Sub) string {
	var s []string
	for _, sub := range l {
		s = append(s, strconv.Itoa(sub.N)+" is "+text(sub.T))
	}
	return strings.Join(s, ", ")
}

// copied returns t in memory of its own.
func copied(t api.Type) api.Type {
	t.Kids = slices.Clone(t.Kids)
	for i, kid := range t.Kids {
		t.Kids[i] = copied(kid)
	}
	return t
}

func copiedPairs(l []api.Pair) []api.Pair {
	l = slices.Clone(l)
	for i, p := range l {
		l[i] = api.Pair{A: copied(p.A), B: copied(p.B)}
	}
	return l
}

// flipped returns l with both types of each pair exchanged.
func flipped(l []api.Pair) []api.Pair {
	l = slices.Clone(l)
	for i, p := range l {
		l[i] = api.Pair{A: p.B, B: p.A}
	}
	return l
}

// P9.1: pairs that have a unifier, whichever side of a pair is which.
func TestSolve(t *testing.T) {
	sub := func(n int, t api.Type) api.Sub { return api.Sub{N: n, T: t} }
	for i, x := range []struct {
		l    []api.Pair
		want []api.Sub
	}{
		{nil, nil}, {[]api.Pair{}, nil}, {pairs(num, num), nil}, {pairs(v("a"), v("a"), fn(v("a"), num), fn(v("a"), num)), nil}, {pairs(m(0), m(0)), nil}, {pairs(list(m(3)), list(m(3))), nil},
		{pairs(m(0), num), []api.Sub{sub(0, num)}}, {pairs(m(0), v("a")), []api.Sub{sub(0, v("a"))}}, {pairs(m(7), list(m(2))), []api.Sub{sub(7, list(m(2)))}}, {pairs(m(2), list(m(7))), []api.Sub{sub(2, list(m(7)))}},
		// The chapter's example.
		{pairs(m(0), fn(num, m(1)), m(1), yes), []api.Sub{sub(0, fn(num, yes)), sub(1, yes)}},
		// Metas stand for the smallest of them, whatever the order.
		{pairs(m(3), m(2)), []api.Sub{sub(3, m(2))}}, {pairs(m(5), m(4), m(4), m(3), m(3), m(2)), []api.Sub{sub(3, m(2)), sub(4, m(2)), sub(5, m(2))}}, {pairs(m(2), m(3), m(3), m(4), m(4), m(5)), []api.Sub{sub(3, m(2)), sub(4, m(2)), sub(5, m(2))}},
		{pairs(m(9), m(8), m(7), m(6), m(9), m(7)), []api.Sub{sub(7, m(6)), sub(8, m(6)), sub(9, m(6))}}, {pairs(m(1), m(2), m(1), m(3), m(1), m(4), m(0), m(4)), []api.Sub{sub(1, m(0)), sub(2, m(0)), sub(3, m(0)), sub(4, m(0))}},
		{pairs(fn(m(1), m(2)), fn(m(2), m(1))), []api.Sub{sub(2, m(1))}}, {pairs(m(4), list(m(3)), m(3), m(1)), []api.Sub{sub(3, m(1)), sub(4, list(m(1)))}}, {pairs(m(1), m(0), m(0), m(1), m(1), m(1)), []api.Sub{sub(1, m(0))}},
		// Metas that stand for one another and then for a type.
		{pairs(m(1), m(0), m(2), m(1), m(1), num), []api.Sub{sub(0, num), sub(1, num), sub(2, num)}}, {pairs(m(5), num, m(5), m(3), m(3), m(4)), []api.Sub{sub(3, num), sub(4, num), sub(5, num)}},
		{pairs(m(0), list(m(1)), m(2), list(m(3)), m(0), m(2)), []api.Sub{sub(0, list(m(1))), sub(2, list(m(1))), sub(3, m(1))}}, {pairs(m(0), list(m(1)), m(0), list(num)), []api.Sub{sub(0, list(num)), sub(1, num)}},
		// All is substituted, also what was found before.
		{pairs(m(0), list(m(1)), m(1), list(m(2)), m(2), list(m(3)), m(3), num), []api.Sub{sub(0, list(list(list(num)))), sub(1, list(list(num))), sub(2, list(num)), sub(3, num)}},
		{pairs(con("T", m(0), m(1), m(2)), con("T", fn(m(1), m(1)), fn(m(2), m(2)), num)), []api.Sub{sub(0, fn(fn(num, num), fn(num, num))), sub(1, fn(num, num)), sub(2, num)}},
		{pairs(fn(m(0), fn(m(0), m(1))), fn(fn(m(2), m(3)), fn(fn(num, m(4)), list(m(3))))), []api.Sub{sub(0, fn(num, m(3))), sub(1, list(m(3))), sub(2, num), sub(4, m(3))}},
		// Numbers of any size; all are told in ascending order.
		{pairs(m(math.MaxInt), m(math.MinInt), m(-5), num, m(0), m(-1)), []api.Sub{sub(-5, num), sub(0, m(-1)), sub(math.MaxInt, m(math.MinInt))}}, {pairs(m(30), num, m(-20), yes, m(10), v("a"), m(-40), con("U")), []api.Sub{sub(-40, con("U")), sub(-20, yes), sub(10, v("a")), sub(30, num)}},
		// Constructors with the same name and other Kids are others; names may be any.
		{pairs(m(0), con("T"), m(1), con("T", num), m(2), con("")), []api.Sub{sub(0, con("T")), sub(1, con("T", num)), sub(2, con(""))}}, {pairs(con("->", m(0)), con("->", num), con("->", m(1), m(2), m(3)), con("->", num, num, yes)), []api.Sub{sub(0, num), sub(1, num), sub(2, num), sub(3, yes)}},
		// Types of other kinds.
		{pairs(api.Type{}, api.Type{}, odd(9, "x", 5), odd(9, "x", 5), odd(4, "", 0, num), odd(4, "", 0, num)), nil}, {pairs(m(0), api.Type{}, m(1), odd(-1, "x", 3)), []api.Sub{sub(0, api.Type{}), sub(1, odd(-1, "x", 3))}},
	} {
		for _, l := range [][]api.Pair{x.l, flipped(x.l)} {
			before := copiedPairs(l)
			got, at, e := Solve(l)
			if e != api.OK || at != 0 || subsText(got) != subsText(x.want) {
				t.Errorf("%d: Solve = %s, %d, %d, want %s", i, subsText(got), at, e, subsText(x.want))
			}
			if !reflect.DeepEqual(l, before) {
				t.Errorf("%d: Solve changes %s", i, pairsText(before))
			}
		}
	}
}

// P9.1: the first pair without a unifier is told, and nothing else.
func TestSolveOfDifferent(t *testing.T) {
	for i, x := range []struct {
		l  []api.Pair
		at int
	}{
		{pairs(num, yes), 0}, {pairs(num, v("a")), 0}, {pairs(v("a"), v("b")), 0}, {pairs(num, fn(num, num)), 0}, {pairs(list(num), list(yes)), 0}, {pairs(con("Int"), v("Int")), 0}, {pairs(v("a"), list(v("a"))), 0},
		// Another number of Kids.
		{pairs(con("T"), con("T", num)), 0}, {pairs(con("T", m(0)), con("T", m(0), m(1))), 0}, {pairs(con("->", num, num), con("->", num, num, num)), 0},
		// A meta that would stand for a type that contains it.
		{pairs(m(0), list(m(0))), 0}, {pairs(m(0), m(0), m(0), fn(num, list(m(0)))), 1}, {pairs(m(1), m(0), m(0), list(m(1))), 1}, {pairs(m(0), list(m(1)), m(1), list(m(0))), 1}, {pairs(m(0), list(m(1)), m(1), list(m(2)), m(3), m(2), m(3), fn(num, m(0))), 3},
		{pairs(m(0), list(m(1)), m(0), m(1)), 1}, {pairs(m(0), list(m(1)), m(2), list(m(3)), m(0), m(3), m(2), m(1)), 3}, {pairs(fn(m(0), m(1)), fn(list(m(1)), list(m(0)))), 0}, {pairs(con("T", m(0), m(0), m(1)), con("T", m(1), list(m(2)), m(2))), 0},
		{pairs(list(m(5)), list(m(6)), fn(m(6), num), fn(list(m(5)), num)), 1}, {pairs(m(0), list(list(m(0)))), 0}, {pairs(m(0), list(m(1)), m(2), list(list(m(3))), m(1), m(3), m(0), m(2)), 3},
		// Only later.
		{pairs(m(0), num, m(0), num, m(0), yes, m(0), v("a")), 2}, {pairs(m(0), m(1), m(2), m(3), m(0), num, m(3), yes, m(1), m(2)), 4}, {pairs(m(0), list(m(1)), m(1), num, m(2), list(yes), m(2), m(2), m(0), m(2)), 4}, {pairs(fn(m(0), m(0)), fn(num, yes), num, num), 0}, {pairs(m(4), m(4), num, num, num, v("b")), 2},
		// Types of other kinds.
		{pairs(api.Type{}, odd(4, "", 0)), 0}, {pairs(odd(4, "x", 0), odd(4, "y", 0)), 0}, {pairs(odd(4, "x", 0), odd(4, "x", 1)), 0}, {pairs(odd(4, "x", 0, num), odd(4, "x", 0, yes)), 0}, {pairs(odd(4, "x", 0, num), odd(4, "x", 0)), 0}, {pairs(num, odd(4, "Int", 0)), 0}, {pairs(v("a"), odd(0, "a", 0)), 0}, {pairs(m(0), odd(4, "", 0, m(0))), 0},
	} {
		for _, l := range [][]api.Pair{x.l, flipped(x.l)} {
			before := copiedPairs(l)
			got, at, e := Solve(l)
			if e != api.ErrMatch || at != x.at || len(got) > 0 {
				t.Errorf("%d: Solve = %s, %d, %d, want ErrMatch at %d", i, subsText(got), at, e, x.at)
			}
			if !reflect.DeepEqual(l, before) {
				t.Errorf("%d: Solve changes %s", i, pairsText(before))
			}
		}
	}
}

// applied returns what Apply says of t, which is in no way too large.
func applied(t *testing.T, s *Store, x api.Type) api.Type {
	t.Helper()
	got, e := s.Apply(x)
	if e != api.OK {
		t.Fatalf("Apply of %s: %d", text(x), e)
	}
	return got
}

func checkApply(t *testing.T, s *Store, x, want api.Type) {
	t.Helper()
	if got := applied(t, s, x); text(got) != text(want) {
		t.Errorf("Apply of %s = %s, want %s", text(x), text(got), text(want))
	}
}

func checkHead(t *testing.T, s *Store, x, want api.Type) {
	t.Helper()
	if got := s.Head(x); text(got) != text(want) {
		t.Errorf("Head of %s = %s, want %s", text(x), text(got), text(want))
	}
}

func checkUnify(t *testing.T, s *Store, a, b api.Type, want api.Errno) {
	t.Helper()
	if e := s.Unify(a, b); e != want {
		t.Errorf("Unify of %s and %s = %d, want %d", text(a), text(b), e, want)
	}
}

// P9.2
func TestFreshAndCount(t *testing.T) {
	s, other := New(), New()
	checkUnify(t, s, m(2), list(m(1)), api.OK)
	for n := range 1000 {
		if got := s.Count(); got != n {
			t.Fatalf("Count = %d, want %d", got, n)
		}
		if got := s.Fresh(); text(got) != text(m(n)) {
			t.Fatalf("Fresh = %s, want %d", text(got), n)
		}
		s.Unify(m(n), m(n/2))
		s.Unify(m(n), yes)
		s.Apply(m(n))
		s.Head(m(n + 1))
	}
	if got := other.Fresh(); text(got) != text(m(0)) || other.Count() != 1 || s.Count() != 1000 {
		t.Errorf("two stores: %s, %d, %d", text(got), other.Count(), s.Count())
	}
	// A meta may be used before Fresh returns it.
	checkApply(t, s, m(1001), m(1001))
	checkUnify(t, s, m(1001), num, api.OK)
	s.Fresh()
	checkApply(t, s, s.Fresh(), num)
}

// P9.2
func TestStore(t *testing.T) {
	s := New()
	all := con("T", m(0), m(1), m(2), m(3), m(4), m(-1))
	checkApply(t, s, all, all)
	checkHead(t, s, m(3), m(3))
	checkUnify(t, s, m(4), m(3), api.OK)
	checkUnify(t, s, m(0), fn(m(1), m(4)), api.OK)
	checkApply(t, s, all, con("T", fn(m(1), m(3)), m(1), m(2), m(3), m(3), m(-1)))
	checkUnify(t, s, fn(m(1), num), fn(list(m(2)), num), api.OK)
	checkApply(t, s, all, con("T", fn(list(m(2)), m(3)), list(m(2)), m(2), m(3), m(3), m(-1)))
	// What a meta stands for comes without what its parts stand for.
	checkHead(t, s, m(1), list(m(2)))
	checkUnify(t, s, m(2), num, api.OK)
	checkHead(t, s, m(1), list(m(2)))
	checkHead(t, s, fn(m(1), m(0)), fn(m(1), m(0)))
	checkHead(t, s, list(m(2)), list(m(2)))
	checkHead(t, s, m(4), m(3))
	checkHead(t, s, m(2), num)
	checkUnify(t, s, m(-1), m(4), api.OK)
	checkHead(t, s, m(3), m(-1))
	checkApply(t, s, all, con("T", fn(list(num), m(-1)), list(num), num, m(-1), m(-1), m(-1)))
	checkUnify(t, s, m(0), fn(list(num), v("a")), api.OK)
	checkApply(t, s, all, con("T", fn(list(num), v("a")), list(num), num, v("a"), v("a"), v("a")))
	for _, x := range []api.Type{num, v("a"), {}, odd(9, "x", 7, v("b")), fn(num, v("a"))} {
		checkHead(t, s, x, x)
		checkApply(t, s, x, x)
	}
}

// P9.2: a pair that cannot be unified leaves no trace, whatever has been found before it fails.
func TestFailedPair(t *testing.T) {
	s := New()
	checkUnify(t, s, m(0), list(m(1)), api.OK)
	checkUnify(t, s, m(3), m(2), api.OK)
	checkUnify(t, s, m(8), list(m(9)), api.OK)
	metas := []api.Type{m(0), m(1), m(2), m(3), m(4), m(5), m(6), m(7), m(8), m(9)}
	all := con("T", metas...)
	whole := con("T", list(m(1)), m(1), m(2), m(2), m(4), m(5), m(6), m(7), list(m(9)), m(9))
	for _, p := range [][]api.Type{
		{m(4), m(4)}, {m(4), num}, {m(1), num}, {m(1), m(0)}, {m(2), m(1)}, {m(1), m(2)}, {m(3), m(5)}, {m(5), m(3)}, {m(3), fn(m(1), m(4))}, {list(m(2)), m(0)}, {m(4), m(0)}, {m(0), m(8)}, {m(8), m(0)}, {m(1), list(m(4))}, {m(7), m(6)}, {m(6), list(m(7))}, {m(-1), m(0)}, {m(2), m(-1)},
		{con("U", m(7), m(6), m(5), m(4), m(8)), con("U", m(6), m(5), m(4), m(3), m(0))}, {con("U", m(2), m(0), m(1)), con("U", list(m(4)), list(m(2)), m(3))},
	} {
		// Each of these is first found, and then something that cannot be.
		for _, bad := range [][]api.Type{{num, yes}, {v("a"), v("b")}, {m(0), num}, {m(4), list(m(4))}, {fn(m(9), m(9)), fn(num, yes)}} {
			heads := []string{}
			for _, x := range metas {
				heads = append(heads, text(s.Head(x)))
			}
			checkUnify(t, s, fn(p[0], bad[0]), fn(p[1], bad[1]), api.ErrMatch)
			checkUnify(t, s, fn(bad[0], p[0]), fn(bad[1], p[1]), api.ErrMatch)
			checkApply(t, s, all, whole)
			checkApply(t, s, m(-1), m(-1))
			for i, x := range metas {
				if got := text(s.Head(x)); got != heads[i] {
					t.Errorf("Head of %d = %s, once %s", i, got, heads[i])
				}
			}
		}
	}
	// All the others can still be found.
	checkUnify(t, s, m(1), m(4), api.OK)
	checkUnify(t, s, m(0), list(list(m(2))), api.OK)
	checkUnify(t, s, m(9), m(4), api.OK)
	checkApply(t, s, all, con("T", list(list(m(2))), list(m(2)), m(2), m(2), list(m(2)), m(5), m(6), m(7), list(list(m(2))), list(m(2))))
	checkUnify(t, s, m(2), m(8), api.ErrMatch)
}

// P9.2: no store, and one that New has not made.
func TestNoStore(t *testing.T) {
	for _, s := range []*Store{nil, {}} {
		for range 2 {
			if got := s.Fresh(); !reflect.DeepEqual(got, api.Type{}) {
				t.Errorf("Fresh = %s", text(got))
			}
			if got := s.Count(); got != 0 {
				t.Errorf("Count = %d", got)
			}
			for _, x := range []api.Type{{}, num, m(0), list(m(1))} {
				if got := s.Head(x); !reflect.DeepEqual(got, api.Type{}) {
					t.Errorf("Head of %s = %s", text(x), text(got))
				}
				if got, e := s.Apply(x); !reflect.DeepEqual(got, api.Type{}) || e != api.ErrNil {
					t.Errorf("Apply of %s = %s, %d", text(x), text(got), e)
				}
				checkUnify(t, s, x, x, api.ErrNil)
				checkUnify(t, s, x, yes, api.ErrNil)
			}
		}
	}
}

// P9.2: a store does not depend on the lists that it was given.
func TestCallerKeepsLists(t *testing.T) {
	s := New()
	inner := list(m(1))
	outer := fn(inner, num)
	checkUnify(t, s, m(0), outer, api.OK)
	inner.Kids[0], outer.Kids[1] = yes, yes
	checkApply(t, s, m(0), fn(list(m(1)), num))
	x := list(m(0))
	got := applied(t, s, x)
	got.Kids[0] = yes
	checkApply(t, s, x, list(fn(list(m(1)), num)))
}
