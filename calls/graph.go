package calls

import (
	"iter"
	"slices"
)

// counted answers a graph without the numbers that count for nothing, each other one once, rising.
func counted(g [][]int) [][]int {
	called := newSet(len(g))
	all := make([][]int, len(g))
	for f := range g {
		for _, n := range g[f] {
			if n >= 0 && n < len(g) {
				called.add(n)
			}
		}
		all[f] = slices.Collect(called.taken())
	}
	return all
}

// turned answers of each function those that call it, rising.
func turned(g [][]int) [][]int {
	callers := make([][]int, len(g))
	for f := range g {
		for _, n := range g[f] {
			callers[n] = append(callers[n], f)
		}
	}
	return callers
}

// ordered answers the functions, each behind all that it calls, the least one first where several could be next. Those that stand in a ring, and those from which one comes to one, are left out: they can't be next.
func ordered(g [][]int) []int {
	callers := turned(g)
	waitsFor := make([]int, len(g))
	ready := newSet(len(g))
	for f := range g {
		waitsFor[f] = len(g[f])
		if waitsFor[f] == 0 {
			ready.add(f)
		}
	}
	var order []int
	for f := range ready.taken() {
		order = append(order, f)
		for _, caller := range callers[f] {
			waitsFor[caller]--
			if waitsFor[caller] == 0 {
				ready.add(caller)
			}
		}
	}
	return order
}

// firstInRing answers the first function that stands in a ring; false, if none does.
//
// Back from the function that is left last, one comes to just those that stand in rings with it; then back from the last one of the others, and so on.
func firstInRing(g [][]int) (int, bool) {
	var left []int
	for some := range visits(g, numbersUpTo(len(g))) {
		left = append(left, some...)
	}
	slices.Reverse(left)
	first := len(g)
	for some := range visits(turned(g), left) {
		if len(some) > 1 || slices.Contains(g[some[0]], some[0]) {
			first = min(first, slices.Min(some))
		}
	}
	if first == len(g) {
		return 0, false
	}
	return first, true
}

// visits goes through a graph from each of these functions that was not come to yet, and tells all that it came to, in the order in which it left them: each behind all that it came to by way of it.
func visits(g [][]int, from []int) iter.Seq[[]int] {
	return func(yield func([]int) bool) {
		cameTo := newSet(len(g))
		gone := make([]int, len(g)) // how many of its calls were gone along
		for _, root := range from {
			if cameTo.add(root) && !yield(visit(g, root, cameTo, gone)) {
				return
			}
		}
	}
}

// visit goes through a graph from one function. It keeps the way by itself, for it may be longer than calls of Go's can be nested.
func visit(g [][]int, root int, cameTo *set, gone []int) []int {
	var left []int
	way := []int{root}
onward:
	for len(way) > 0 {
		at := way[len(way)-1]
		for gone[at] < len(g[at]) {
			next := g[at][gone[at]]
			gone[at]++
			if cameTo.add(next) {
				way = append(way, next)
				continue onward
			}
		}
		left = append(left, at)
		way = way[:len(way)-1]
	}
	return left
}

func numbersUpTo(end int) []int {
	var all []int
	for n := range end {
		all = append(all, n)
	}
	return all
}
