package group

import (
	"math"
	"reflect"
	"slices"
	"testing"

	"cognate/api"
)

// equal reports whether two lists of lists are equal; lists without elements may be nil or empty.
func equal(a, b [][]int) bool { return slices.EqualFunc(a, b, slices.Equal) }

// copied returns a copy of lists that keeps nil and empty lists apart.
func copied(l [][]int) [][]int {
	l = slices.Clone(l)
	for i := range l {
		l[i] = slices.Clone(l[i])
	}
	return l
}

// checkGroups checks what Groups returns for items, and that it leaves its argument as it is.
func checkGroups(t *testing.T, needs, want [][]int) {
	t.Helper()
	kept := copied(needs)
	got, e := Groups(needs)
	if e != api.OK || !equal(got, want) {
		t.Errorf("Groups of %v: %v, %d; not %v", kept, got, e, want)
	}
	if !reflect.DeepEqual(needs, kept) {
		t.Errorf("Groups has made %v of %v", needs, kept)
	}
}

// checkNoItem checks that Groups returns ErrArg, and leaves its argument as it is.
func checkNoItem(t *testing.T, needs [][]int) {
	t.Helper()
	kept := copied(needs)
	if got, e := Groups(needs); e != api.ErrArg || len(got) > 0 {
		t.Errorf("Groups of %v: %v, %d", kept, got, e)
	}
	if !reflect.DeepEqual(needs, kept) {
		t.Errorf("Groups has made %v of %v", needs, kept)
	}
}

// P10.1: the groups, their order, and the order of their members.
func TestGroups(t *testing.T) {
	for _, x := range []struct{ needs, want [][]int }{
		// The example of the chapter.
		{[][]int{{1}, {0, 2}, nil}, [][]int{{2}, {0, 1}}},
		// No item, and one.
		{nil, nil},
		{[][]int{}, nil},
		{[][]int{nil}, [][]int{{0}}},
		{[][]int{{}}, [][]int{{0}}},
		{[][]int{{0}}, [][]int{{0}}},
		{[][]int{{0, 0, 0}}, [][]int{{0}}},
		// Two items.
		{[][]int{nil, nil}, [][]int{{0}, {1}}},
		{[][]int{{1}, nil}, [][]int{{1}, {0}}},
		{[][]int{nil, {0}}, [][]int{{0}, {1}}},
		{[][]int{{1}, {0}}, [][]int{{0, 1}}},
		{[][]int{{0, 1}, {1}}, [][]int{{1}, {0}}},
		{[][]int{{1, 0, 1}, {1, 0, 0}}, [][]int{{0, 1}}},
		// Chains, up and down, and a circle.
		{[][]int{{1}, {2}, {3}, nil}, [][]int{{3}, {2}, {1}, {0}}},
		{[][]int{nil, {0}, {1}, {2}}, [][]int{{0}, {1}, {2}, {3}}},
		{[][]int{{1}, {2}, {3}, {0}}, [][]int{{0, 1, 2, 3}}},
		{[][]int{{3}, {0}, {1}, {2}}, [][]int{{0, 1, 2, 3}}},
		// Members are ascending, whatever leads to them.
		{[][]int{{4}, {3}, {0}, {2}, {1}}, [][]int{{0, 1, 2, 3, 4}}},
		{[][]int{{5}, {4}, nil, {4}, {1, 3}, {0}}, [][]int{{0, 5}, {1, 3, 4}, {2}}},
		// An item that needs a circle, or that a circle needs, is not in it.
		{[][]int{{1}, {2}, {1}}, [][]int{{1, 2}, {0}}},
		{[][]int{{1, 2}, {0}, nil}, [][]int{{2}, {0, 1}}},
		{[][]int{{1, 2}, {0, 1, 2}, nil, {0, 1}}, [][]int{{2}, {0, 1}, {3}}},
		// Circles of which one needs the other, or that have an item in common.
		{[][]int{{1}, {0, 2}, {3}, {2}}, [][]int{{2, 3}, {0, 1}}},
		{[][]int{{1}, {0}, {3, 0}, {2}}, [][]int{{0, 1}, {2, 3}}},
		{[][]int{{1}, {0, 2}, {1}}, [][]int{{0, 1, 2}}},
		{[][]int{{1, 3}, {2}, {0}, {4}, {0}}, [][]int{{0, 1, 2, 3, 4}}},
	} {
		checkGroups(t, x.needs, x.want)
	}
}

// P10.1: of several groups that may come, the one with the smallest member comes first.
func TestOrder(t *testing.T) {
	for _, x := range []struct{ needs, want [][]int }{
		{[][]int{nil, nil, nil, nil}, [][]int{{0}, {1}, {2}, {3}}},
		// A group comes as soon as it may and is the smallest one, but makes none come earlier that it needs.
		{[][]int{{3}, nil, nil, nil}, [][]int{{1}, {2}, {3}, {0}}},
		{[][]int{{1}, nil, nil, nil}, [][]int{{1}, {0}, {2}, {3}}},
		{[][]int{{2}, {3}, nil, nil}, [][]int{{2}, {0}, {3}, {1}}},
		{[][]int{{3}, {2}, nil, nil}, [][]int{{2}, {1}, {3}, {0}}},
		{[][]int{{2}, {2}, {3}, nil, nil}, [][]int{{3}, {2}, {0}, {1}, {4}}},
		{[][]int{{4, 2}, nil, {5}, nil, {1}, nil}, [][]int{{1}, {3}, {4}, {5}, {2}, {0}}},
		{[][]int{{2, 4}, nil, {5}, nil, {1}, nil}, [][]int{{1}, {3}, {4}, {5}, {2}, {0}}},
		// The smallest member counts, not the one that others need.
		{[][]int{{4}, nil, nil, nil, {0}}, [][]int{{0, 4}, {1}, {2}, {3}}},
		{[][]int{{2}, {5}, nil, {4}, {3}, {1}}, [][]int{{1, 5}, {2}, {0}, {3, 4}}},
		{[][]int{nil, {4}, {3}, {2}, {1}}, [][]int{{0}, {1, 4}, {2, 3}}},
		// A group waits for what any of its members needs.
		{[][]int{{5}, nil, {5}, nil, nil, {0, 4}}, [][]int{{1}, {3}, {4}, {0, 5}, {2}}},
		{[][]int{{5, 3}, {5}, nil, nil, nil, {0}}, [][]int{{2}, {3}, {0, 5}, {1}, {4}}},
	} {
		checkGroups(t, x.needs, x.want)
	}
}

// P10.1: an element that is not an item, wherever it stands.
func TestNoItem(t *testing.T) {
	for _, bad := range []int{-1, math.MinInt, 4, 5, 1 << 32, 1<<32 + 1, math.MaxInt} {
		for i := range 4 {
			for at := range 3 {
				needs := [][]int{{1, 0}, {2, 2}, {0, 1}, {0, 3}}
				needs[i] = slices.Insert(needs[i], at, bad)
				checkNoItem(t, needs)
			}
		}
	}
	for _, needs := range [][][]int{{{1}}, {{-1}}, {nil, {2}}, {{2}, nil}, {{0, 1, 0, 2}, {0}}, {{-1, 1}, {2}}} {
		checkNoItem(t, needs)
	}
}

// P10.1 and P10.3: the same items again have the same groups; these share no memory with what is given, nor with each other.
func TestMemory(t *testing.T) {
	items := [][]int{{1}, {0}, {3}, {4, 0}, {2}, nil, {1}}
	want := [][]int{{0, 1}, {2, 3, 4}, {5}, {6}}
	needs := copied(items)
	for range 2 {
		groups, _ := Groups(needs)
		if !equal(groups, want) {
			t.Fatal("Groups:", groups)
		}
		for i, group := range groups {
			fill(group)
			if !equal(groups[i+1:], want[i+1:]) {
				t.Errorf("group %d shares memory with one of %v", i, groups[i+1:])
			}
		}
		if !equal(needs, items) {
			t.Fatal("the groups share memory with", needs)
		}
	}
}

// fill overwrites all that a list has room for.
func fill(l []int) {
	l = l[:cap(l)]
	for i := range l {
		l[i] = -7
	}
}
