package calls_test

import (
	"slices"

	"plover/api"
)

// reckonedGraph tells who calls whom, as the chapter says it: of each function and each other one, whether it is called.
func reckonedGraph(p api.Prog) [][]int {
	var g [][]int
	for _, f := range p.Funcs {
		names := calledIn(f.Body)
		var called []int
		for n := range p.Funcs {
			if isMeant(p, n) && slices.Contains(names, p.Funcs[n].Name) {
				called = append(called, n)
			}
		}
		g = append(g, called)
	}
	return g
}

// isMeant tells whether a function is the first one that its name may mean.
func isMeant(p api.Prog, n int) bool {
	for _, f := range p.Funcs[:n] {
		if f.Vector < 0 && f.Name == p.Funcs[n].Name {
			return false
		}
	}
	return p.Funcs[n].Vector < 0
}

// calledIn tells all names that calls of a body name, in any order, as often as they do.
func calledIn(body []api.Stmt) []string {
	var names []string
	for _, s := range body {
		if s.Op == api.SCall {
			names = append(names, s.Func)
		}
		names = append(names, calledIn(s.Body)...)
		names = append(names, calledIn(s.Else)...)
	}
	return names
}

// isCalled tells whether a function calls another one; numbers that are none count for nothing.
func isCalled(g [][]int, from, to int) bool {
	return to >= 0 && to < len(g) && slices.Contains(g[from], to)
}

// reached tells of each function to which ones calls lead, by one or more of them.
func reached(g [][]int) [][]bool {
	way := make([][]bool, len(g))
	for a := range g {
		way[a] = make([]bool, len(g))
		for b := range g {
			way[a][b] = isCalled(g, a, b)
		}
	}
	for by := range g {
		for a := range g {
			for b := range g {
				way[a][b] = way[a][b] || way[a][by] && way[by][b]
			}
		}
	}
	return way
}

// ringed tells all functions that stand in a ring.
func ringed(g [][]int) []int {
	var all []int
	way := reached(g)
	for f := range g {
		if way[f][f] {
			all = append(all, f)
		}
	}
	return all
}

// reckonedOrder takes, as long as there is one, the least function of those whose called ones are all taken.
func reckonedOrder(g [][]int) ([]int, bool) {
	if len(ringed(g)) > 0 {
		return nil, false
	}
	var order []int
	for len(order) < len(g) {
		for f := range g {
			if !slices.Contains(order, f) && areAllIn(g, f, order) {
				order = append(order, f)
				break
			}
		}
	}
	return order, true
}

func areAllIn(g [][]int, f int, order []int) bool {
	for n := range g {
		if isCalled(g, f, n) && !slices.Contains(order, n) {
			return false
		}
	}
	return true
}

// reckonedDepth tells a function's depth in a graph without rings.
func reckonedDepth(g [][]int, sizes []int, f int) int {
	size, most, calls := 0, 0, false
	if f < len(sizes) && sizes[f] > 0 {
		size = sizes[f]
	}
	for n := range g {
		if isCalled(g, f, n) {
			depth := reckonedDepth(g, sizes, n)
			if !calls || depth > most {
				most, calls = depth, true
			}
		}
	}
	return size + most
}

func reckonedDeep(g [][]int, sizes []int) []int {
	if len(ringed(g)) > 0 {
		return nil
	}
	var all []int
	for f := range g {
		all = append(all, reckonedDepth(g, sizes, f))
	}
	return all
}

func reckonedBound(g [][]int, sizes []int, main int, prios []int) int {
	if len(ringed(g)) > 0 {
		return 0
	}
	bound := 0
	if main >= 0 && main < len(g) {
		bound = reckonedDepth(g, sizes, main)
	}
	for prio := 1; prio <= api.MaxPrio; prio++ {
		most, is := 0, false
		for f := range g {
			if f >= len(prios) || prios[f] != prio {
				continue
			}
			depth := reckonedDepth(g, sizes, f)
			if !is || depth > most {
				most, is = depth, true
			}
		}
		bound += most
	}
	return bound
}

// waysFrom tells what each way of calls that begins with a function needs: a row of functions each of which calls the next one.
func waysFrom(g [][]int, sizes []int, f int) []int {
	size := 0
	if f < len(sizes) && sizes[f] > 0 {
		size = sizes[f]
	}
	needs := []int{size}
	for n := range g {
		if isCalled(g, f, n) {
			for _, need := range waysFrom(g, sizes, n) {
				needs = append(needs, size+need)
			}
		}
	}
	return needs
}

// allNeeds tells what main and handlers of rising priorities, from that one on, need, whatever way each of them goes.
func allNeeds(g [][]int, sizes []int, main int, prios []int) []int {
	needs := []int{0}
	if main >= 0 && main < len(g) {
		needs = waysFrom(g, sizes, main)
	}
	for prio := 1; prio <= api.MaxPrio; prio++ {
		below := needs
		for f := range g {
			if f >= len(prios) || prios[f] != prio {
				continue
			}
			for _, need := range waysFrom(g, sizes, f) {
				for _, under := range below {
					needs = append(needs, under+need)
				}
			}
		}
		slices.Sort(needs)
		needs = slices.Compact(needs)
	}
	return needs
}
