package unify

import (
	"math/rand"
	"reflect"
	"slices"
	"testing"

	"cognate/api"
)

// model keeps a unifier literally: what each meta stands for, always fully substituted.
type model map[int]api.Type

// put returns t with all metas replaced.
func (u model) put(t api.Type) api.Type {
	if t.Kind == api.TMeta {
		if other, ok := u[t.N]; ok {
			return other
		}
		return t
	}
	t.Kids = slices.Clone(t.Kids)
	for i, kid := range t.Kids {
		t.Kids[i] = u.put(kid)
	}
	return t
}

// with returns a copy of u in which the meta n stands for t, too.
func (u model) with(n int, t api.Type) model {
	one := model{n: t}
	all := model{n: t}
	for k, other := range u {
		all[k] = one.put(other)
	}
	return all
}

// unify returns what u becomes if a and b are unified, too, or nil.
func (u model) unify(a, b api.Type) model {
	a, b = u.put(a), u.put(b)
	if a.Kind == api.TMeta && b.Kind == api.TMeta && a.N == b.N {
		return u
	}
	if b.Kind == api.TMeta && (a.Kind != api.TMeta || a.N < b.N) {
		a, b = b, a
	}
	switch {
	case a.Kind == api.TMeta && contains(b, a.N):
		return nil
	case a.Kind == api.TMeta:
		return u.with(a.N, b)
	case a.Kind != b.Kind || a.Name != b.Name || len(a.Kids) != len(b.Kids):
		return nil
	}
	for i := range a.Kids {
		if u = u.unify(a.Kids[i], b.Kids[i]); u == nil {
			return nil
		}
	}
	return u
}

// subs returns what u says, as Solve does.
func (u model) subs() []api.Sub {
	var l []api.Sub
	for n, t := range u {
		l = append(l, api.Sub{N: n, T: t})
	}
	slices.SortFunc(l, func(a, b api.Sub) int { return a.N - b.N })
	return l
}

func contains(t api.Type, n int) bool {
	return t.Kind == api.TMeta && t.N == n || slices.ContainsFunc(t.Kids, func(kid api.Type) bool { return contains(kid, n) })
}

// sizes tells how large arbitrary types are.
type sizes struct{ levels, metas int }

// some returns an arbitrary type.
func some(r *rand.Rand, z sizes) api.Type {
	if r.Intn(2) == 0 {
		return m(r.Intn(z.metas) - 2)
	}
	if z.levels == 0 || r.Intn(8) == 0 {
		return []api.Type{num, v("a"), yes, con("L")}[min(r.Intn(12), 3)]
	}
	z.levels--
	switch r.Intn(4) {
	case 0:
		return con("L", some(r, z))
	case 1:
		return con("T", some(r, z), some(r, z), some(r, z))
	}
	return fn(some(r, z), some(r, z))
}

// similar returns t with some of its parts replaced by metas, so that both have a unifier more often.
func similar(r *rand.Rand, t api.Type, z sizes) api.Type {
	if r.Intn(4) == 0 {
		return m(r.Intn(z.metas) - 2)
	}
	t.Kids = slices.Clone(t.Kids)
	for i, kid := range t.Kids {
		t.Kids[i] = similar(r, kid, z)
	}
	return t
}

func somePair(r *rand.Rand, z sizes) api.Pair {
	t := some(r, z)
	if r.Intn(3) == 0 {
		return api.Pair{A: t, B: some(r, z)}
	}
	return api.Pair{A: similar(r, t, z), B: similar(r, t, z)}
}

// samples calls check with arbitrary pairs, always the same.
func samples(count int, check func(r *rand.Rand, z sizes, l []api.Pair)) {
	r := rand.New(rand.NewSource(9))
	for range count {
		z := sizes{levels: r.Intn(4), metas: 2 + r.Intn(12)}
		var l []api.Pair
		for range 1 + r.Intn(8) {
			l = append(l, somePair(r, z))
		}
		check(r, z, l)
	}
}

// P9.1: Solve against the model.
func TestSolveAgainstModel(t *testing.T) {
	var ends [2]int
	samples(60000, func(_ *rand.Rand, _ sizes, l []api.Pair) {
		u, fails := model{}, -1
		for i, p := range l {
			if u = u.unify(p.A, p.B); u == nil {
				fails = i
				break
			}
		}
		before := copiedPairs(l)
		got, at, e := Solve(l)
		switch {
		case fails >= 0 && (e != api.ErrMatch || at != fails || len(got) > 0):
			t.Fatalf("Solve of %s = %s, %d, %d, want ErrMatch at %d", pairsText(l), subsText(got), at, e, fails)
		case fails < 0 && (e != api.OK || at != 0 || subsText(got) != subsText(u.subs())):
			t.Fatalf("Solve of %s = %s, %d, %d, want %s", pairsText(l), subsText(got), at, e, subsText(u.subs()))
		case !reflect.DeepEqual(l, before):
			t.Fatalf("Solve changes %s", pairsText(before))
		}
		if fails < 0 {
			ends[0]++
		} else {
			ends[1]++
		}
	})
	if ends[0] < 10000 || ends[1] < 10000 {
		t.Errorf("%d with a unifier, %d without", ends[0], ends[1])
	}
}

// P9.2: a store against the model, also after pairs that fail.
func TestStoreAgainstModel(t *testing.T) {
	var ends [2]int
	samples(20000, func(r *rand.Rand, z sizes, l []api.Pair) {
		s, u := New(), model{}
		for _, p := range l {
			after, want := u.unify(p.A, p.B), api.OK
			if after == nil {
				want = api.ErrMatch
				ends[1]++
			} else {
				u = after
				ends[0]++
			}
			if e := s.Unify(p.A, p.B); e != want {
				t.Fatalf("Unify of %s = %d, want %d; all: %s", pairsText([]api.Pair{p}), e, want, pairsText(l))
			}
			for n := range z.metas {
				checkApply(t, s, m(n-2), u.put(m(n-2)))
				head, full := s.Head(m(n-2)), u.put(m(n-2))
				if text(u.put(head)) != text(full) || head.Kind != full.Kind || head.N != full.N {
					t.Fatalf("Head of %d = %s, want %s; all: %s", n-2, text(head), text(full), pairsText(l))
				}
			}
			x := some(r, z)
			before := copied(x)
			checkApply(t, s, x, u.put(x))
			if x.Kind != api.TMeta {
				checkHead(t, s, x, x)
			}
			if !reflect.DeepEqual(x, before) {
				t.Fatalf("Apply or Head changes %s", text(before))
			}
		}
		if s.Count() != 0 || t.Failed() {
			t.Fatalf("Count = %d; all: %s", s.Count(), pairsText(l))
		}
	})
	if ends[0] < 10000 || ends[1] < 10000 {
		t.Errorf("%d pairs with a unifier, %d without", ends[0], ends[1])
	}
}

// ground returns all types without metas that have few levels.
func ground(levels int) []api.Type {
	l := []api.Type{num, v("a"), con("L")}
	if levels > 0 {
		inner := ground(levels - 1)
		for _, a := range inner {
			l = append(l, con("L", a))
			if levels == 1 {
				for _, b := range inner {
					l = append(l, fn(a, b))
				}
			}
		}
	}
	return l
}

// unifies reports whether u makes both types of every pair equal.
func (u model) unifies(l []api.Pair) bool {
	return !slices.ContainsFunc(l, func(p api.Pair) bool { return text(u.put(p.A)) != text(u.put(p.B)) })
}

// P9.4 and P9.1, without a model of unification: the result unifies the pairs, and whatever else does so results from it.
func TestMostGeneral(t *testing.T) {
	r := rand.New(rand.NewSource(94))
	all, found, none := ground(2), 0, 0
	for range 300 {
		z := sizes{levels: 1 + r.Intn(2), metas: 3}
		var l []api.Pair
		for range 1 + r.Intn(3) {
			l = append(l, somePair(r, z))
		}
		subs, at, e := Solve(l)
		result := model{}
		for _, sub := range subs {
			result[sub.N] = sub.T
		}
		if e == api.OK && !result.unifies(l) {
			t.Fatalf("%s do not unify %s", subsText(subs), pairsText(l))
		}
		for _, sub := range subs {
			if text(result.put(sub.T)) != text(sub.T) {
				t.Fatalf("%s are not fully substituted", subsText(subs))
			}
		}
		for i := range len(all) * len(all) * len(all) {
			other := model{-2: all[i%len(all)], -1: all[i/len(all)%len(all)], 0: all[i/len(all)/len(all)]}
			if e == api.ErrMatch {
				none++
				if other.unifies(l[:at+1]) {
					t.Fatalf("%s have a unifier: %s", pairsText(l), subsText(other.subs()))
				}
				continue
			}
			if !other.unifies(l) {
				continue
			}
			found++
			for _, sub := range subs {
				if text(other.put(sub.T)) != text(other[sub.N]) {
					t.Fatalf("%s unify %s, but do not result from %s", subsText(other.subs()), pairsText(l), subsText(subs))
				}
			}
		}
	}
	if found < 10000 || none < 10000 {
		t.Errorf("%d unifiers, %d others", found, none)
	}
}

// P9.4: the order and the sides of the pairs do not matter, nor does unifying again what is already equal.
func TestOrder(t *testing.T) {
	samples(20000, func(r *rand.Rand, z sizes, l []api.Pair) {
		subs, _, e := Solve(l)
		mixed := slices.Concat(l, flipped(l))
		r.Shuffle(len(mixed), func(i, j int) { mixed[i], mixed[j] = mixed[j], mixed[i] })
		again, _, e2 := Solve(mixed)
		if e != e2 || subsText(subs) != subsText(again) {
			t.Fatalf("Solve of %s = %s, %d; of %s = %s, %d", pairsText(l), subsText(subs), e, pairsText(mixed), subsText(again), e2)
		}
		if e != api.OK {
			return
		}
		var result []api.Pair
		for _, sub := range subs {
			result = append(result, api.Pair{A: m(sub.N), B: sub.T})
		}
		if same, _, e := Solve(result); e != api.OK || subsText(same) != subsText(subs) {
			t.Fatalf("Solve of its result %s = %s, %d", subsText(subs), subsText(same), e)
		}
	})
}

// wild returns a type of any kind, with fields that its kind does not have.
func wild(r *rand.Rand, levels int) api.Type {
	t := odd(r.Intn(6)-1, string("abL"[r.Intn(3)]), r.Intn(4)-1)
	for levels > 0 && len(t.Kids) < 3 && r.Intn(3) > 0 {
		t.Kids = append(t.Kids, wild(r, levels-1))
	}
	return t
}

// Types that no chapter could have produced are no reason to panic, to change them or to forget what was before.
func TestWild(t *testing.T) {
	r := rand.New(rand.NewSource(96))
	var ends [2]int
	for range 20000 {
		s := New()
		var l []api.Pair
		for range 4 {
			a, b := wild(r, 3), wild(r, 3)
			if r.Intn(2) == 0 {
				b = similar(r, a, sizes{metas: 4})
			}
			l = append(l, api.Pair{A: a, B: b})
			all := con("T", m(-2), m(-1), m(0), m(1), m(2), a, b)
			earlier, before := text(applied(t, s, all)), copiedPairs(l)
			switch e := s.Unify(a, b); e {
			case api.OK:
				ends[0]++
			case api.ErrMatch:
				ends[1]++
				if got := text(applied(t, s, all)); got != earlier {
					t.Fatalf("after %s: %s, once %s", pairsText(l), got, earlier)
				}
			default:
				t.Fatalf("Unify of %s and %s = %d", text(a), text(b), e)
			}
			s.Head(a)
			subs, _, e := Solve(l)
			if e != api.OK && (e != api.ErrMatch || len(subs) > 0) {
				t.Fatalf("Solve of %s = %s, %d", pairsText(l), subsText(subs), e)
			}
			if !reflect.DeepEqual(l, before) {
				t.Fatalf("%s have been changed", pairsText(before))
			}
		}
	}
	if ends[0] < 10000 || ends[1] < 10000 {
		t.Errorf("%d pairs with a unifier, %d without", ends[0], ends[1])
	}
}
