package group

import (
	"container/heap"
	"sort"
)

// queue is a heap of groups: the one with the smallest member first.
type queue struct {
	sort.IntSlice
}

func (q *queue) Push(x any) {
	q.IntSlice = append(q.IntSlice, x.(int))
}

func (q *queue) Pop() any {
	last := len(q.IntSlice) - 1
	x := q.IntSlice[last]
	q.IntSlice = q.IntSlice[:last]
	return x
}

// links returns for each group the other groups that it needs, as often as its members need theirs; of says which group each item is in.
func links(needs [][]int, of []int) [][]int {
	linked := make([][]int, len(needs))
	for item, l := range needs {
		group := of[item]
		for _, need := range l {
			if of[need] != group {
				linked[group] = append(linked[group], of[need])
			}
		}
	}
	return linked
}

// arrange returns groups, which are ordered by their smallest members, in the order in which they come; linked says which others each of them needs, and is used up.
func arrange(groups, linked [][]int) [][]int {
	come := make([]bool, len(groups))
	// Each group that has not come is a candidate, or waits for one that has not come either: so all that may come are candidates.
	waiting := make([][]int, len(groups))
	var candidates queue
	for group := range groups {
		heap.Push(&candidates, group)
	}
	ordered := make([][]int, 0, len(groups))
	for range groups {
		var next int
	choice:
		for {
			next = heap.Pop(&candidates).(int)
			for {
				last := len(linked[next]) - 1
				if last < 0 {
					break choice
				}
				need := linked[next][last]
				if !come[need] {
					waiting[need] = append(waiting[need], next)
					continue choice
				}
				linked[next] = linked[next][:last]
			}
		}
		come[next] = true
		ordered = append(ordered, groups[next])
		for _, group := range waiting[next] {
			heap.Push(&candidates, group)
		}
	}
	return ordered
}
