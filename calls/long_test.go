package calls_test

import (
	"strings"
	"testing"

	"plover/api"
	"plover/calls"
)

// P1: blocks within blocks, as deep as the document promises something.
func TestP1DeepBlocks(t *testing.T) {
	body := []api.Stmt{call("c")}
	for i := range 1<<16 - 8 {
		if i%2 == 0 {
			body = []api.Stmt{{Op: api.SWhile, Body: body}, call("b")}
		} else {
			body = []api.Stmt{{Op: api.SIf, Else: body}, call("a")}
		}
	}
	p := program(fn("main", body...), fn("a"), fn("b"), fn("c"), fn("d"))
	wantTold(t, "Graph", calls.Graph(p), [][]int{{1, 2, 3}, {}, {}, {}, {}})
	p.Funcs[3].Body = []api.Stmt{call("main")}
	if err := calls.Check(p); err == nil {
		t.Error("no ring")
	}
}

// chain is a graph of which each function calls the next one, and the last one that number.
func chain(many, last int) [][]int {
	g := make([][]int, many)
	for f := range many {
		g[f] = []int{f + 1}
	}
	g[many-1] = []int{last}
	return g
}

// P1: long rows of functions: they end, and soon.
func TestP1LongGraphs(t *testing.T) {
	const many = 200000
	sizes := make([]int, many)
	for f := range sizes {
		sizes[f] = 2
	}
	for _, last := range []int{-1, many} {
		g := chain(many, last)
		order, is := calls.Order(g)
		if !is || len(order) != many || order[0] != many-1 || order[many-1] != 0 {
			t.Fatal("the chain's order")
		}
		if got := calls.Bound(g, sizes, 0, []int{0, 1}); got != 2*many+2*(many-1) {
			t.Errorf("the chain's bound: %d", got)
		}
	}
	for _, last := range []int{0, many / 2, many - 1} {
		if order, is := calls.Order(chain(many, last)); is || order != nil {
			t.Errorf("a ring's order, from %d", last)
		}
	}
	// Each calls the one ahead of it, and the one in the middle: of those that could be next there are many.
	g := make([][]int, many)
	for f := range g {
		g[f] = []int{f - 1, f - many/2, f - many/2}
	}
	order, is := calls.Order(g)
	if !is || len(order) != many || order[0] != 0 || order[many-1] != many-1 {
		t.Error("the other chain's order")
	}
	none, is := calls.Order(make([][]int, many))
	for i, f := range none {
		if i != f || !is {
			t.Fatal("the order of functions that call none")
		}
	}
}

// P1, P8.3: a long way between two rings: its functions stand in none.
func TestP1LongBetweenRings(t *testing.T) {
	const many = 60000
	p := programOf(chain(many, many-1))
	wantCheck(t, "a ring at the end", p, p.Funcs[many-1].At)
	for _, back := range []int{0, 1, many / 3} {
		g := chain(many, many-1)
		g[many/2] = []int{back, many/2 + 1}
		p := programOf(g)
		if err, is := calls.Check(p).(*api.Fault); !is || err.At != p.Funcs[back].At {
			t.Errorf("a ring from %d on: %+v", back, err)
		}
	}
	// One that only calls a ring, and one that only is called by a ring, stand ahead.
	g := chain(many, 1)
	g[many-1] = []int{many - 2, 1}
	g[1] = nil
	p = programOf(g)
	if err, is := calls.Check(p).(*api.Fault); !is || err.At != p.Funcs[many-2].At {
		t.Errorf("a ring of the last two: %+v", err)
	}
}

// P1: a text as long as may be, all of it calls.
func TestP1LongText(t *testing.T) {
	text := "fn main() { } fn f() { " + strings.Repeat("g();", 4900) + " } fn g() { }"
	wantGraph(t, "a row of calls", parsed(t, text), [][]int{{}, {2}, {}})
	wantCheck(t, "a row of calls", parsed(t, text), -1)
}
