package unify

import (
	"math/rand"
	"reflect"
	"slices"
	"testing"

	"cognate/api"
)

// levels is how deep the document lets types be nested.
const levels = 1 << 16

// size is the number of types in t.
func size(t api.Type) int {
	n := 1
	for _, kid := range t.Kids {
		n += size(kid)
	}
	return n
}

// lists is t in so many lists.
func lists(count int, t api.Type) api.Type {
	for range count {
		t = list(t)
	}
	return t
}

// checkOver checks a store after it has returned ErrLimit.
func checkOver(t *testing.T, s *Store) {
	t.Helper()
	for _, p := range pairs(num, num, num, yes, m(0), m(0), m(-9), num, list(m(0)), m(1), api.Type{}, api.Type{}) {
		checkUnify(t, s, p.A, p.B, api.ErrLimit)
	}
	if count := s.Count(); s.Fresh().N != count || s.Count() != count+1 {
		t.Errorf("Count = %d, then %d", count, s.Count())
	}
	checkApply(t, s, m(-9), m(-9))
	checkHead(t, s, m(-9), m(-9))
}

// checkLarge checks what Apply says of x, which becomes want: that, or ErrLimit if it is too large.
func checkLarge(t *testing.T, s *Store, x, want api.Type) {
	t.Helper()
	got, e := s.Apply(x)
	switch {
	case e == api.ErrLimit && size(want) > api.MaxType && reflect.DeepEqual(got, api.Type{}):
		checkOver(t, s)
	case e != api.OK || text(got) != text(want):
		t.Errorf("Apply to a type of %d: %d, a type of %d", size(want), e, size(got))
	}
}

// P9.3: types of MaxType parts are no problem; larger ones may be one.
func TestMaxType(t *testing.T) {
	for _, more := range []int{-1, 0, 1, 2, 1000} {
		count := api.MaxType + more
		kids, metas := slices.Repeat([]api.Type{num}, count-1), []api.Type{}
		for i := range count - 1 {
			metas = append(metas, m(i))
		}
		half, rest := lists((count-1)/2-1, num), metas[1:][:(count-1)%2]
		for i, x := range []struct {
			l       []api.Pair
			t, want api.Type
		}{
			{nil, con("T", metas...), con("T", metas...)}, {nil, con("T", kids...), con("T", kids...)}, {nil, lists(count-1, m(0)), lists(count-1, m(0))},
			{pairs(m(0), lists(count-1, num)), m(0), lists(count-1, num)}, {pairs(m(0), lists(count-2, num)), list(m(0)), lists(count-1, num)}, {pairs(m(1), m(0)), lists(count-1, m(1)), lists(count-1, m(0))},
			{pairs(con("T", metas...), con("T", kids...)), con("T", metas...), con("T", kids...)}, {pairs(m(0), con("T", metas[1:]...)), list(m(0)), list(con("T", metas[1:]...))},
			// One type twice, and one more part if the number is odd.
			{pairs(m(0), half), con("T", slices.Concat([]api.Type{m(0), m(0)}, rest)...), con("T", slices.Concat([]api.Type{half, half}, rest)...)},
		} {
			if got := size(x.want); got != count {
				t.Errorf("%d: a type of %d, not %d", i, got, count)
			}
			s := New()
			for _, p := range x.l {
				if e := s.Unify(p.A, p.B); e != api.OK && (e != api.ErrLimit || more <= 0) {
					t.Errorf("%d: Unify for a type of %d: %d", i, count, e)
				}
			}
			checkLarge(t, s, x.t, x.want)
		}
	}
}

// P9.3 and P9.1: what Solve returns may also be as large.
func TestSolveMaxType(t *testing.T) {
	for _, more := range []int{0, 1} {
		count := api.MaxType + more
		var up []api.Pair
		for i := range count - 1 {
			up = append(up, api.Pair{A: m(i), B: list(m(i + 1))})
		}
		down := slices.Clone(up)
		slices.Reverse(down)
		mixed := slices.Clone(up)
		rand.New(rand.NewSource(93)).Shuffle(len(mixed), func(i, j int) { mixed[i], mixed[j] = mixed[j], mixed[i] })
		for i, l := range [][]api.Pair{up, down, mixed} {
			subs, at, e := Solve(l)
			if e == api.ErrLimit && more > 0 && at == 0 && len(subs) == 0 {
				continue
			}
			if e != api.OK || at != 0 || len(subs) != count-1 {
				t.Fatalf("%d: Solve to a type of %d: %d, %d, %d", i, count, len(subs), at, e)
			}
			for n, sub := range subs {
				if n%100 == 0 && (sub.N != n || text(sub.T) != text(lists(count-1-n, m(count-1)))) {
					t.Fatalf("%d: Solve to a type of %d: %d is a type of %d", i, count, sub.N, size(sub.T))
				}
			}
			if _, at, e := Solve(append(l, api.Pair{A: m(count - 1), B: list(m(0))})); e != api.ErrMatch || at != count-1 {
				t.Errorf("%d: Solve of a circle of %d: %d, %d", i, count, at, e)
			}
		}
	}
}

// P9.3: MaxSteps pairs are no problem; more may be one.
func TestMaxSteps(t *testing.T) {
	s := New()
	checkUnify(t, s, m(0), list(m(1)), api.OK)
	for n := range api.MaxSteps - 10 {
		p := [2]api.Type{num, num}
		want := api.OK
		switch n % 3 {
		case 1:
			p, want = [2]api.Type{v("a"), num}, api.ErrMatch
		case 2:
			p = [2]api.Type{m(2), m(1)}
		}
		if e := s.Unify(p[0], p[1]); e != want {
			t.Fatalf("Unify after %d pairs: %d", n, e)
		}
	}
	checkUnify(t, s, m(3), m(1), api.OK)
	for range 3 * api.MaxSteps {
		e := s.Unify(m(1), m(3))
		if e == api.ErrLimit {
			checkOver(t, s)
			break
		}
		if e != api.OK {
			t.Fatal("Unify:", e)
		}
	}
	checkApply(t, s, con("T", m(0), m(1), m(2), m(3)), con("T", list(m(1)), m(1), m(1), m(1)))
	// A pair that is given up leaves no trace either.
	s = New()
	checkUnify(t, s, m(1), num, api.OK)
	kids := slices.Repeat([]api.Type{m(1)}, 2*api.MaxSteps)
	if e := s.Unify(con("T", append([]api.Type{m(0)}, kids...)...), con("T", append([]api.Type{yes}, kids...)...)); e == api.ErrLimit {
		checkOver(t, s)
		checkApply(t, s, fn(m(0), m(1)), fn(m(0), num))
	} else if e != api.OK {
		t.Error("Unify of a wide pair:", e)
	}
}

// doubling says that each of so many metas from first on is two of the next one, as made says.
func doubling(first, count int, made func(api.Type) api.Type) []api.Pair {
	var l []api.Pair
	for n := range count {
		l = append(l, api.Pair{A: m(first + n), B: made(m(first + n + 1))})
	}
	return l
}

// What has been found to be equal is not compared again, however large it is.
func TestAgain(t *testing.T) {
	two := func(t api.Type) api.Type { return fn(t, t) }
	s := New()
	for _, p := range slices.Concat(doubling(0, 11, two), doubling(100, 11, two)) {
		checkUnify(t, s, p.A, p.B, api.OK)
	}
	for range 1000 {
		checkUnify(t, s, m(0), m(100), api.OK)
		checkUnify(t, s, list(m(100)), list(m(0)), api.OK)
		checkUnify(t, s, m(5), m(106), api.ErrMatch)
	}
}

// P9.3: types that are too large to be written down.
func TestHuge(t *testing.T) {
	two := func(t api.Type) api.Type { return fn(t, t) }
	// Those of the last list meet the others between two metas.
	even := func(t api.Type) api.Type { return fn(list(t), list(t)) }
	between := func(t api.Type) api.Type { return list(fn(t, t)) }
	const count, far = 60, 1000
	small := doubling(0, 11, two)
	if subs, at, e := Solve(small); e != api.OK || at != 0 || len(subs) != 11 || size(subs[0].T) != 1<<12-1 {
		t.Errorf("Solve of a small one: %d, %d, %d", len(subs), at, e)
	}
	for i, l := range [][]api.Pair{
		doubling(0, count, two), slices.Concat(doubling(0, count, two), doubling(far, count, two), pairs(m(0), m(far))), slices.Concat(pairs(m(0), m(far)), doubling(0, count, two), doubling(far, count, two)),
		slices.Concat(doubling(0, count, even), doubling(far, count, between), pairs(m(0), fn(m(far), m(far)))), slices.Concat(pairs(m(0), fn(m(far), m(far))), doubling(0, count, even), doubling(far, count, between)),
		{{A: con("T", m(0), m(1), m(2), m(3), m(4), m(5)), B: con("T", two(two(m(1))), two(two(two(m(2)))), lists(9, two(two(two(m(3))))), two(two(two(two(m(4))))), two(two(two(two(m(5))))), two(two(two(two(two(m(6)))))))}},
	} {
		if subs, at, e := Solve(l); e != api.ErrLimit || at != 0 || len(subs) > 0 {
			t.Errorf("%d: Solve = %d, %d, %d", i, len(subs), at, e)
		}
		s := New()
		for _, p := range l {
			if e := s.Unify(p.A, p.B); e == api.ErrLimit {
				break
			} else if e != api.OK {
				t.Errorf("%d: Unify = %d", i, e)
			}
		}
		if got, e := s.Apply(m(0)); e == api.ErrLimit && reflect.DeepEqual(got, api.Type{}) {
			checkOver(t, s)
		}
	}
}

// Types as deep as the document lets them be.
func TestDeep(t *testing.T) {
	s := New()
	left, right := m(0), m(1)
	for range levels - 2 {
		left, right = fn(left, m(2)), fn(v("a"), right)
	}
	for _, p := range [][2]api.Type{{m(3), left}, {m(4), right}, {list(left), list(m(3))}, {m(3), left}, {list(m(4)), list(right)}} {
		if e := s.Unify(p[0], p[1]); e != api.OK && e != api.ErrLimit {
			t.Errorf("Unify of deep ones: %d", e)
		}
	}
	for _, p := range [][2]api.Type{{left, right}, {m(2), left}, {right, m(1)}, {m(4), list(right)}} {
		if e := s.Unify(p[0], p[1]); e != api.ErrMatch && e != api.ErrLimit {
			t.Errorf("Unify of deep ones that differ: %d", e)
		}
	}
	for _, x := range []api.Type{left, right, m(3), m(4)} {
		if got, e := s.Apply(x); e != api.OK && (e != api.ErrLimit || !reflect.DeepEqual(got, api.Type{})) {
			t.Errorf("Apply to a deep one: %d", e)
		}
	}
	if got := s.Head(left); got.Name != "->" || got.Kids[1].N != 2 {
		t.Errorf("Head of a deep one: %s", got.Name)
	}
	// Deeper than any of these, since each type is in the next one.
	s, other := New(), New()
	for n := range 100000 {
		checkUnify(t, s, m(n), list(m(n+1)), api.OK)
		checkUnify(t, other, m(n), list(m(n+1)), api.OK)
	}
	for n := range 100000 {
		checkUnify(t, s, m(-n-1), list(m(-n-2)), api.OK)
	}
	if e := s.Unify(m(0), m(-1)); e != api.OK && e != api.ErrLimit {
		t.Errorf("Unify of two that are very deep: %d", e)
	}
	if e := other.Unify(m(100000), m(0)); e != api.ErrMatch && e != api.ErrLimit {
		t.Errorf("Unify of one that is very deep with its end: %d", e)
	}
	if got, e := s.Apply(m(0)); e != api.OK && (e != api.ErrLimit || !reflect.DeepEqual(got, api.Type{})) {
		t.Errorf("Apply to one that is very deep: %d", e)
	}
}

// Very many metas that stand for one another.
func TestManyMetas(t *testing.T) {
	const count = 200000
	var up []api.Pair
	for n := range count {
		up = append(up, api.Pair{A: m(n), B: m(n + 1)})
	}
	down := slices.Clone(up)
	slices.Reverse(down)
	mixed := slices.Clone(up)
	rand.New(rand.NewSource(92)).Shuffle(len(mixed), func(i, j int) { mixed[i], mixed[j] = mixed[j], mixed[i] })
	for i, l := range [][]api.Pair{up, down, mixed} {
		for _, x := range []struct {
			l     []api.Pair
			first int
			want  api.Type
		}{{l, 1, m(0)}, {append(slices.Clone(l), api.Pair{A: m(count / 2), B: num}), 0, num}, {append(pairs(m(count/3), list(m(-1))), l...), 0, list(m(-1))}} {
			subs, at, e := Solve(x.l)
			if e != api.OK || at != 0 || len(subs) != count+1-x.first {
				t.Fatalf("%d: Solve = %d, %d, %d", i, len(subs), at, e)
			}
			for n, sub := range subs {
				if sub.N != n+x.first || !reflect.DeepEqual(sub.T, x.want) {
					t.Fatalf("%d: %d is %s", i, sub.N, text(sub.T))
				}
			}
		}
	}
}
