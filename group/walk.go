package group

import "math"

const (
	// deepest is how many visits may be nested: a longer chain of needs would use up the stack.
	deepest = 1 << 12
	// nowhere stands for the item from which the first item is entered.
	nowhere = -1
	// closed is the low of items whose groups are complete: above that of all others.
	closed = math.MaxInt
)

// place is what a traversal knows of an item.
type place struct {
	from int // the item from which it was entered
	next int // how many of its needs have been looked at
	low  int // the place in open, counted from 1, of the first item that it is known to reach; 0 if it has not been entered
}

// walk is a traversal of items along their needs.
type walk struct {
	places  []place
	open    []int // the items that have been entered and whose groups are not complete, in the order in which they were entered
	leaders []int // for each item whose group is complete, the member that was entered first
}

// leaders returns for each item a member of its group, the same for all members.
func leaders(needs [][]int) []int {
	w := walk{places: make([]place, len(needs)), leaders: make([]int, len(needs))}
	// visit goes on with an item that has been entered. It returns the item to go on with: the one from which this one was entered, or one for which this visit lies too deep.
	var visit func(item, depth int) int
	visit = func(item, depth int) int {
		here := &w.places[item]
		for ; here.next < len(needs[item]); here.next++ {
			need := needs[item][here.next]
			if w.enter(need, item) {
				on := need
				if depth < deepest {
					on = visit(need, depth+1)
				}
				if on != item {
					return on
				}
			}
			here.low = min(here.low, w.places[need].low)
		}
		w.leave(item)
		return here.from
	}
	for root := range needs {
		if w.enter(root, nowhere) {
			for item := root; item != nowhere; {
				item = visit(item, 1)
			}
		}
	}
	return w.leaders
}

// enter reports whether an item is new, and enters it if it is.
func (w *walk) enter(item, from int) bool {
	if w.places[item].low > 0 {
		return false
	}
	w.open = append(w.open, item)
	w.places[item] = place{from: from, low: len(w.open)}
	return true
}

// leave completes the group of an item all of whose needs have been looked at, if it reaches no open item that was entered before it.
func (w *walk) leave(item int) {
	first := w.places[item].low - 1
	if w.open[first] != item {
		return
	}
	for _, member := range w.open[first:] {
		w.leaders[member] = item
		w.places[member].low = closed
	}
	w.open = w.open[:first]
}
