package group

import (
	"math/rand"
	"runtime/debug"
	"slices"
	"testing"

	"cognate/api"
)

// upTo returns the numbers below count.
func upTo(count int) []int {
	l := make([]int, count)
	for i := range l {
		l[i] = i
	}
	return l
}

// each returns groups of one member each.
func each(members []int) [][]int {
	var groups [][]int
	for _, member := range members {
		groups = append(groups, []int{member})
	}
	return groups
}

// needing returns items that need what f says.
func needing(count int, f func(i int) []int) [][]int {
	needs := make([][]int, count)
	for i := range needs {
		needs[i] = f(i)
	}
	return needs
}

// within returns those of l that are items.
func within(count int, l ...int) []int {
	return slices.DeleteFunc(l, func(i int) bool { return i < 0 || i >= count })
}

// checkLarge checks what Groups returns for items that are too many to be shown.
func checkLarge(t *testing.T, what string, needs, want [][]int) {
	t.Helper()
	if got, e := Groups(needs); e != api.OK || !equal(got, want) {
		t.Errorf("%s of %d: %d groups, %d", what, len(needs), len(got), e)
	}
}

// checkShapes checks items, of an even number, that need each other in some regular way.
func checkShapes(t *testing.T, count int) {
	t.Helper()
	all := upTo(count)
	down := slices.Clone(all)
	slices.Reverse(down)
	var pairs [][]int
	for i := count - 2; i >= 0; i -= 2 {
		pairs = append(pairs, []int{i, i + 1})
	}
	check := func(what string, want [][]int, f func(i int) []int) {
		t.Helper()
		checkLarge(t, what, needing(count, f), want)
	}
	check("a chain", each(down), func(i int) []int { return within(count, i+1) })
	check("a chain back", each(all), func(i int) []int { return within(count, i-1) })
	check("a circle", [][]int{all}, func(i int) []int { return []int{(i + 1) % count} })
	check("a circle back", [][]int{all}, func(i int) []int { return []int{(i + count - 1) % count} })
	check("a chain there and back", [][]int{all}, func(i int) []int { return within(count, i-1, i+1) })
	check("a chain of pairs", pairs, func(i int) []int { return within(count, i^1, i+1) })
	half := count / 2
	check("a chain to a circle", append([][]int{all[half:]}, each(down[count-half:])...), func(i int) []int {
		if i == count-1 {
			return []int{half}
		}
		return []int{i + 1}
	})
	check("a ladder", each(down), func(i int) []int { return within(count, i+1, i+2) })
	check("one that needs all", each(append(upTo(count)[1:], 0)), func(i int) []int {
		if i == 0 {
			return all
		}
		return nil
	})
	check("one that all need", each(append([]int{count - 1}, all[:count-1]...)), func(i int) []int { return []int{count - 1} })
}

// P10.1 and rule 1: chains of any length need only a small stack.
func TestLong(t *testing.T) {
	defer debug.SetMaxStack(debug.SetMaxStack(1 << 22))
	checkShapes(t, 1<<20)
}

// P10.1 and P10.3: chains of about as many items as one recursion visits, or of some times as many.
func TestRecursions(t *testing.T) {
	for times := range 4 {
		for more := -4; more <= 4; more += 2 {
			if count := times*deepest + more; count > 2 {
				checkShapes(t, count)
			}
		}
	}
}

// planted returns items that form circles of given lengths, each circle with up to so many needs of members of earlier ones, and the circles with ascending members.
func planted(r *rand.Rand, lengths []int, more int) (needs, circles [][]int) {
	count := 0
	for _, length := range lengths {
		count += length
	}
	names := r.Perm(count)
	needs = make([][]int, count)
	begin := 0
	for _, length := range lengths {
		circle := names[begin : begin+length]
		for i, name := range circle {
			needs[name] = append(needs[name], circle[(i+1)%length])
		}
		for range r.Intn(more + 1) {
			if name := circle[r.Intn(length)]; begin > 0 {
				needs[name] = append(needs[name], names[r.Intn(begin)])
			}
			name := circle[r.Intn(length)]
			needs[name] = append(needs[name], circle[r.Intn(length)])
		}
		begin += length
		circles = append(circles, slices.Sorted(slices.Values(circle)))
	}
	for _, l := range needs {
		r.Shuffle(len(l), func(i, j int) { l[i], l[j] = l[j], l[i] })
	}
	return needs, circles
}

// inOrder returns the circles in the order of groups.
func inOrder(needs, circles [][]int) [][]int {
	circles = slices.SortedFunc(slices.Values(circles), slices.Compare)
	of := make([]int, len(needs))
	for i, circle := range circles {
		for _, member := range circle {
			of[member] = i
		}
	}
	// For each circle how many needs of it have not come, and which circles need it.
	left, by := make([]int, len(circles)), make([][]int, len(circles))
	for item, l := range needs {
		for _, need := range l {
			if of[need] != of[item] {
				left[of[item]]++
				by[of[need]] = append(by[of[need]], of[item])
			}
		}
	}
	var ordered [][]int
	for range circles {
		i := slices.Index(left, 0)
		left[i] = -1
		ordered = append(ordered, circles[i])
		for _, user := range by[i] {
			left[user]--
		}
	}
	return ordered
}

// P10.1 and P10.3: circles short and long, whose members are spread among all items.
func TestPlanted(t *testing.T) {
	r := rand.New(rand.NewSource(102))
	for _, x := range []struct{ circles, longest, more int }{
		{5, 3 * deepest, 2}, {5, 3 * deepest, 100}, {20, deepest, 3}, {300, 100, 1}, {300, 100, 30}, {10000, 3, 2}, {10000, 1, 4}, {1, 5 * deepest, 1000},
	} {
		var lengths []int
		for range x.circles {
			lengths = append(lengths, 1+r.Intn(x.longest))
		}
		needs, circles := planted(r, lengths, x.more)
		checkLarge(t, "circles", needs, inOrder(needs, circles))
	}
}
