package group

import (
	"math/rand"
	"slices"
	"testing"

	"cognate/api"
)

// reached returns for each item which items it reaches.
func reached(needs [][]int) [][]bool {
	reach := make([][]bool, len(needs))
	for i, l := range needs {
		reach[i] = make([]bool, len(needs))
		for _, need := range l {
			reach[i][need] = true
		}
	}
	for between := range reach {
		for _, from := range reach {
			if from[between] {
				for to, ok := range reach[between] {
					from[to] = from[to] || ok
				}
			}
		}
	}
	return reach
}

// model returns the groups as the words of the chapter say it.
func model(needs [][]int) [][]int {
	reach := reached(needs)
	var groups [][]int
	for i := range needs {
		var group []int
		for j := range needs {
			if i == j || reach[i][j] && reach[j][i] {
				group = append(group, j)
			}
		}
		if group[0] == i {
			groups = append(groups, group)
		}
	}
	var ordered [][]int
	var come []int
	for len(groups) > 0 {
		i := slices.IndexFunc(groups, func(group []int) bool { return mayCome(needs, group, come) })
		ordered = append(ordered, groups[i])
		come = append(come, groups[i]...)
		groups = slices.Delete(groups, i, i+1)
	}
	return ordered
}

// mayCome reports whether all that a group needs has come, or is in the group.
func mayCome(needs [][]int, group, come []int) bool {
	for _, member := range group {
		for _, need := range needs[member] {
			if !slices.Contains(group, need) && !slices.Contains(come, need) {
				return false
			}
		}
	}
	return true
}

// checkPromise checks what P10.3 says of the groups of items.
func checkPromise(t *testing.T, needs [][]int) {
	t.Helper()
	groups, e := Groups(needs)
	reach := reached(needs)
	place := map[int]int{}
	for at, group := range groups {
		for _, i := range group {
			if _, twice := place[i]; twice || i < 0 || i >= len(needs) {
				t.Fatalf("Groups of %v: %v, %d: %d", needs, groups, e, i)
			}
			place[i] = at
			for _, j := range group {
				if i != j && !reach[i][j] {
					t.Fatalf("Groups of %v: %v, %d: %d does not reach %d", needs, groups, e, i, j)
				}
			}
		}
	}
	if e != api.OK || len(place) != len(needs) {
		t.Fatalf("Groups of %v: %v, %d: %d items", needs, groups, e, len(place))
	}
	for i, l := range needs {
		for _, need := range l {
			if place[need] > place[i] {
				t.Fatalf("Groups of %v: %v: %d comes before %d", needs, groups, i, need)
			}
		}
	}
}

// P10.1 and P10.3: all ways in which up to four items can need each other.
func TestAllSmall(t *testing.T) {
	for count := range 5 {
		for ways := range 1 << (count * count) {
			needs := make([][]int, count)
			for i := range count * count {
				if ways>>i&1 == 1 {
					needs[i/count] = append(needs[i/count], i%count)
				}
			}
			checkGroups(t, needs, model(needs))
			checkPromise(t, needs)
		}
	}
}

// arbitrary returns items, each of which needs arbitrary ones up to so many times.
func arbitrary(r *rand.Rand, count, most int) [][]int {
	needs := make([][]int, count)
	for i := range needs {
		for range r.Intn(most + 1) {
			needs[i] = append(needs[i], r.Intn(count))
		}
	}
	return needs
}

// P10.1 and P10.3: arbitrary items; the order in which one needs others, and how often, changes nothing.
func TestArbitrary(t *testing.T) {
	r := rand.New(rand.NewSource(103))
	for range 4000 {
		needs := arbitrary(r, 1+r.Intn(24), 1+r.Intn(3))
		want := model(needs)
		checkGroups(t, needs, want)
		checkPromise(t, needs)
		for i, l := range needs {
			needs[i] = append(l, l...)
			r.Shuffle(len(needs[i]), func(a, b int) { needs[i][a], needs[i][b] = needs[i][b], needs[i][a] })
		}
		checkGroups(t, needs, want)
	}
	for range 20 {
		needs := arbitrary(r, 150+r.Intn(100), 1+r.Intn(3))
		checkGroups(t, needs, model(needs))
		checkPromise(t, needs)
	}
}

// P10.1: other numbers for the items change the groups only by these numbers.
func TestRenamed(t *testing.T) {
	r := rand.New(rand.NewSource(101))
	for range 1000 {
		needs := arbitrary(r, 1+r.Intn(30), 2)
		name := r.Perm(len(needs))
		other := make([][]int, len(needs))
		for i, l := range needs {
			for _, need := range l {
				other[name[i]] = append(other[name[i]], name[need])
			}
		}
		groups, _ := Groups(needs)
		for _, group := range groups {
			for i := range group {
				group[i] = name[group[i]]
			}
			slices.Sort(group)
		}
		renamed, e := Groups(other)
		slices.SortFunc(groups, slices.Compare)
		slices.SortFunc(renamed, slices.Compare)
		if e != api.OK || !equal(groups, renamed) {
			t.Fatalf("Groups of %v: %v, %d; not %v", other, renamed, e, groups)
		}
	}
}
