package calls_test

import (
	"fmt"
	"math"
	"slices"
	"testing"

	"plover/api"
	"plover/calls"
)

// P8.2: orders: what is called stands ahead; of those that could be next the least one is.
func TestP82Order(t *testing.T) {
	for _, row := range []struct {
		g    [][]int
		want []int
	}{
		{nil, nil}, {[][]int{}, nil}, {[][]int{{}}, []int{0}}, {[][]int{nil, nil, nil}, []int{0, 1, 2}},
		{[][]int{{1}, {2}, {}}, []int{2, 1, 0}}, {[][]int{{}, {0}, {1}}, []int{0, 1, 2}}, {[][]int{{2}, {}, {}}, []int{1, 2, 0}}, {[][]int{{3}, {}, {}, {}}, []int{1, 2, 3, 0}},
		{[][]int{{3}, {0}, {}, {}}, []int{2, 3, 0, 1}}, {[][]int{{1, 2}, {3}, {3}, {}}, []int{3, 1, 2, 0}}, {[][]int{{2}, {}, {1}, {}}, []int{1, 2, 0, 3}}, {[][]int{{4}, {3}, {}, {}, {}}, []int{2, 3, 1, 4, 0}},
		{[][]int{{}, {4}, {0}, {0}, {3}}, []int{0, 2, 3, 4, 1}}, {[][]int{{5}, {5}, {5}, {}, {}, {4, 3}}, []int{3, 4, 5, 0, 1, 2}},
		// In no order, and more than once.
		{[][]int{{2, 1}, {}, {}}, []int{1, 2, 0}}, {[][]int{{2, 1, 2, 2, 1}, {2, 2}, {}}, []int{2, 1, 0}}, {[][]int{{1, 1}, {}, {0, 0, 1, 1, 0}}, []int{1, 0, 2}},
		// Numbers that are none.
		{[][]int{{-1, 1}, {2, -2}, {3, 4, 5}}, []int{2, 1, 0}}, {[][]int{{math.MinInt}, {math.MaxInt}}, []int{0, 1}}, {[][]int{{-1}}, []int{0}}, {[][]int{{1}}, []int{0}}, {[][]int{{1, 2}, {2}}, []int{1, 0}},
		{[][]int{{1 << 32}, {1<<32 + 1}, {1<<32 + 2, -1 << 32}}, []int{0, 1, 2}}, {[][]int{{64}, {-64, 63}}, []int{0, 1}},
	} {
		wantOrder(t, row.g, row.want, true)
	}
}

// P8.2: graphs with a ring, also beside functions that stand in none: no order, no depths, no bound.
func TestP82Rings(t *testing.T) {
	for _, g := range [][][]int{
		{{0}}, {{1}, {0}}, {{1}, {2}, {0}}, {{}, {1}}, {{1}, {1}}, {{1}, {2}, {1}}, {{}, {0, 2}, {3}, {2}, {}}, {{1, 2}, {}, {3}, {4}, {2}}, {{}, {}, {}, {3, 0}}, {{1}, {2}, {3}, {4}, {5}, {0}},
		{{1}, {0}, {3}, {2}}, {{-1, 0, 7}}, {{1, 1}, {0, 0}}, {{4}, {0}, {1}, {2}, {3, 9}}, {{}, {2}, {}, {4, 0}, {5, 2}, {3, 1}},
	} {
		sizes, prios := []int{1, 2, 3, 4, 5, 6}, []int{0, 1, 2, 3, 4, 5}
		wantOrder(t, g, nil, false)
		wantDeep(t, g, sizes, nil)
		for main := -1; main <= len(g); main++ {
			wantBound(t, g, sizes, main, prios, 0)
		}
		if got := calls.Deep(g, sizes); got != nil {
			t.Errorf("Deep of %v: %#v, want nil", g, got)
		}
	}
}

// P8.2: sizes that are not told, or below 0, are 0; those of no function count for nothing.
func TestP82Sizes(t *testing.T) {
	g := example()
	for _, row := range []struct{ sizes, want []int }{
		{nil, []int{0, 0, 0, 0, 0}}, {[]int{}, []int{0, 0, 0, 0, 0}}, {[]int{5}, []int{5, 0, 0, 0, 0}}, {[]int{5, 3, 2}, []int{10, 5, 2, 2, 0}}, {[]int{0, 0, 1}, []int{1, 1, 1, 1, 0}},
		{[]int{-1, -2, -3, -4, -5}, []int{0, 0, 0, 0, 0}}, {[]int{5, -3, 2, 4, -9}, []int{7, 2, 2, 6, 0}}, {[]int{math.MinInt, 3, math.MinInt, 4, 1}, []int{3, 3, 0, 4, 1}},
		{[]int{5, 3, 2, 4, 9, 1000, 2000}, []int{10, 5, 2, 6, 9}}, {[]int{0, 0, 0, 0, math.MaxInt}, []int{0, 0, 0, 0, math.MaxInt}}, {[]int{0, 0, math.MaxInt}, []int{math.MaxInt, math.MaxInt, math.MaxInt, math.MaxInt, 0}},
	} {
		wantDeep(t, g, row.sizes, row.want)
	}
	// Ints wrap. Of depths all of which are below 0 the greatest one counts; of no calls 0.
	wantDeep(t, [][]int{{1}, {2}, {}}, []int{5, 1, math.MaxInt}, []int{math.MinInt + 5, math.MinInt, math.MaxInt})
	wantDeep(t, [][]int{{1, 2}, {3}, {3}, {}}, []int{0, 1, 2, math.MaxInt}, []int{math.MinInt + 1, math.MinInt, math.MinInt + 1, math.MaxInt})
	wantDeep(t, [][]int{{-1, 4}, {}, nil, {5}}, []int{3, 0, 2, 1}, []int{3, 0, 2, 1})
	wantDeep(t, [][]int{{1, 2}, {3}, {}, {}}, []int{1, 1, 7, math.MaxInt}, []int{8, math.MinInt, 7, math.MaxInt})
	wantDeep(t, nil, []int{1, 2, 3}, nil)
}

// P8.2: calls that are told more than once, in another order, or beside numbers that are none, make no depth greater.
func TestP82EachOnce(t *testing.T) {
	sizes := []int{5, 3, 2, 4, 9}
	for _, g := range [][][]int{
		{{2, 1}, {2, 2, 2}, {}, {2, -1}, {5, 6}}, {{1, 1, 2, 1}, {2, math.MaxInt}, {math.MinInt}, {2, 2}, {-1}}, {{2, 2, 1, 1, 5}, {-5, 2}, {5}, {-1, 2, 5}, nil},
	} {
		wantOrder(t, g, []int{2, 1, 0, 3, 4}, true)
		wantDeep(t, g, sizes, []int{10, 5, 2, 6, 9})
		wantBound(t, g, sizes, 0, []int{0, 0, 0, 1, 1}, 19)
	}
}

// P8.2: bounds: of mains that there are not, of priorities that are not told, below 1, above 7, and of each one between.
func TestP82Bound(t *testing.T) {
	g, sizes := example(), []int{5, 3, 2, 4, 9} // depths 10 5 2 6 9
	for main, want := range map[int]int{0: 10, 1: 5, 2: 2, 3: 6, 4: 9, 5: 0, 6: 0, -1: 0, -2: 0, math.MaxInt: 0, math.MinInt: 0, 1 << 32: 0} {
		wantBound(t, g, sizes, main, nil, want)
		wantBound(t, g, sizes, main, []int{0, 0, 0, 0, 0}, want)
		wantBound(t, g, sizes, main, []int{0, 0, 0, 2, 3}, want+15)
		wantBound(t, g, nil, main, []int{1, 2, 3, 4, 5}, 0)
		wantBound(t, nil, sizes, main, []int{1, 2, 3}, 0)
	}
	for _, row := range []struct {
		prios []int
		want  int
	}{
		{[]int{}, 10}, {[]int{0}, 10}, {[]int{1}, 20}, {[]int{0, 1}, 15}, {[]int{0, 1, 1}, 15}, {[]int{0, 1, 2}, 17}, {[]int{0, 0, 0, 1}, 16}, {[]int{0, 0, 0, 1, 2}, 25}, {[]int{0, 0, 0, 2, 1}, 25}, {[]int{0, 0, 0, 7, 7}, 19},
		{[]int{0, 0, 0, 8, 9}, 10}, {[]int{0, 0, 0, -1, -7}, 10}, {[]int{0, 0, 0, 7, 8}, 16}, {[]int{0, 0, 0, math.MaxInt, math.MinInt}, 10}, {[]int{0, 0, 0, 1<<32 + 1, 1}, 19}, {[]int{0, 0, 0, -1, 1}, 19},
		{[]int{1, 2, 3, 4, 5}, 42}, {[]int{5, 5, 5, 5, 5}, 20}, {[]int{3, 3, 3, 6, 6}, 29}, {[]int{0, 0, 0, 0, 0, 1, 2, 3, 4}, 10}, {[]int{0, 0, 0, 1, 1, 2, 3}, 19},
	} {
		wantBound(t, g, sizes, 0, row.prios, row.want)
	}
	for prio := -3; prio <= api.MaxPrio+3; prio++ {
		want := 10
		if prio >= 1 && prio <= 7 {
			want = 19
		}
		wantBound(t, g, sizes, 0, []int{0, 0, 0, prio, prio}, want)
	}
	all := make([][]int, 8)
	wantBound(t, all, []int{100, 1, 2, 4, 8, 16, 32, 64}, 0, []int{0, 1, 2, 3, 4, 5, 6, 7}, 227)
	wantBound(t, all, []int{100, 1, 2, 4, 8, 16, 32, 64}, 0, []int{0, 7, 6, 5, 4, 3, 2, 1}, 227)
	// Ints wrap.
	wantBound(t, all, []int{math.MaxInt, 1}, 0, []int{0, 1}, math.MinInt)
	wantBound(t, [][]int{{}, {2}, {}}, []int{7, 1, math.MaxInt}, 0, []int{0, 1, 0}, math.MinInt+7)
}

// allGraphs tells all graphs of so many functions.
func allGraphs(many int, do func(g [][]int) bool) {
	for set := range 1 << (many * many) {
		g := make([][]int, many)
		for bit := range many * many {
			if set>>bit&1 == 1 {
				g[bit/many] = append(g[bit/many], bit%many)
			}
		}
		if !do(g) {
			return
		}
	}
}

// P8.2, P8.3: all graphs of up to four functions, against the tests' own reckoning.
func TestP82AllSmallGraphs(t *testing.T) {
	for many := range 5 {
		d := dice(many)
		orders := 0
		allGraphs(many, func(g [][]int) bool {
			wantReckoned(t, &d, g)
			if len(ringed(g)) == 0 {
				orders++
			}
			return !t.Failed()
		})
		if want := []int{1, 1, 3, 25, 543}[many]; orders != want {
			t.Errorf("%d graphs without a ring of %d functions, want %d", orders, many, want)
		}
	}
}

// wantReckoned fails unless all that is asked of a graph is as reckoned, with some sizes and priorities.
func wantReckoned(t *testing.T, d *dice, g [][]int) {
	t.Helper()
	order, is := reckonedOrder(g)
	wantOrder(t, g, order, is)
	sizes, prios := make([]int, d.below(len(g)+3)), make([]int, d.below(len(g)+3))
	for i := range sizes {
		sizes[i] = d.below(12) - 2
	}
	for i := range prios {
		prios[i] = d.below(12) - 2
	}
	main := d.below(len(g)+3) - 1
	wantDeep(t, g, sizes, reckonedDeep(g, sizes))
	wantBound(t, g, sizes, main, prios, reckonedBound(g, sizes, main, prios))
	p, at := programOf(g), -1
	if all := ringed(g); len(all) > 0 {
		at = p.Funcs[all[0]].At
	}
	wantCheck(t, told(g), p, at)
}

// programOf makes a program of a graph; each function has a place of its own.
func programOf(g [][]int) api.Prog {
	var p api.Prog
	for f, called := range g {
		made := fn(fmt.Sprint("f", f))
		made.At = 7 * (len(g) - f)
		for _, n := range called {
			made.Body = append(made.Body, call(fmt.Sprint("f", n)))
		}
		p.Funcs = append(p.Funcs, made)
	}
	return p
}

// anyGraph makes a graph: with numbers that are none, with some more than once, in no order; of some seeds without rings.
func anyGraph(d *dice, many int) [][]int {
	hasRings := d.below(2) == 0
	names := make([]int, many) // so that calls go up and down
	for i := range names {
		j := d.below(i + 1)
		names[i], names[j] = names[j], i
	}
	g := make([][]int, many)
	for f := range many {
		for range d.below(4) {
			n := d.below(many)
			switch {
			case d.below(6) == 0:
				g[names[f]] = append(g[names[f]], []int{-1, many, many + 1, math.MaxInt, math.MinInt, -many}[d.below(6)])
			case hasRings && d.below(4) == 0:
				g[names[f]] = append(g[names[f]], n)
			case n < f:
				g[names[f]] = append(g[names[f]], names[n], names[n])
			}
		}
		if called := g[names[f]]; d.below(2) == 0 {
			slices.Reverse(called)
		}
	}
	return g
}

// P8.2, P8.3: any graphs, of more functions than a word has bits, too, against the tests' own reckoning.
func TestP82AnyGraphs(t *testing.T) {
	rings, none := 0, 0
	for seed := range 3000 {
		d := dice(seed)
		many := 1 + d.below(18)
		if seed%100 == 0 {
			many = 60 + d.below(80)
		}
		g := anyGraph(&d, many)
		wantReckoned(t, &d, g)
		if len(ringed(g)) > 0 {
			rings++
		} else {
			none++
		}
		if t.Failed() {
			return
		}
	}
	if rings < 500 || none < 500 {
		t.Errorf("%d with a ring, %d without", rings, none)
	}
}

// P8.4: no way of calls, with handlers of rising priorities, needs more than the bound, and one needs just as much.
func TestP84Bound(t *testing.T) {
	many := 0
	for seed := range 3000 {
		d := dice(seed)
		g := anyGraph(&d, 1+d.below(7))
		if len(ringed(g)) > 0 {
			continue
		}
		many++
		sizes, prios := make([]int, len(g)), make([]int, len(g))
		for f := range g {
			sizes[f], prios[f] = d.below(50), d.below(api.MaxPrio+3)-1
		}
		main := d.below(len(g)+2) - 1
		needs := allNeeds(g, sizes, main, prios)
		wantBound(t, g, sizes, main, prios, slices.Max(needs))
		if t.Failed() {
			return
		}
	}
	if many < 1000 {
		t.Errorf("only %d graphs", many)
	}
}
