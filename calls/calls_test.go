package calls_test

import (
	"fmt"
	"testing"

	"plover/api"
	"plover/calls"
	"plover/parse"
)

// told writes a thing down; lists that are empty, and none, look the same.
func told(p any) string {
	return fmt.Sprintf("%+v", p)
}

// wantTold fails unless two things are the same when they are written down.
func wantTold(t *testing.T, about string, got, want any) {
	t.Helper()
	if told(got) != told(want) {
		t.Errorf("%.800s:\n got %.2000s\nwant %.2000s", about, told(got), told(want))
	}
}

// dice answers numbers below n, the same ones each time.
type dice uint64

func (d *dice) below(n int) int {
	*d = *d*6364136223846793005 + 1442695040888963407
	return int(uint64(*d) >> 33 % uint64(n))
}

func parsed(t *testing.T, text string) api.Prog {
	t.Helper()
	p, err := parse.Parse(text)
	if err != nil {
		t.Fatalf("%.800q: %v (%+v), want a program", text, err, err)
	}
	return p
}

// wantGraph fails unless a program has that graph, and stays as it was.
func wantGraph(t *testing.T, about string, p api.Prog, want [][]int) {
	t.Helper()
	before := told(p)
	wantTold(t, "Graph of "+about, calls.Graph(p), want)
	wantTold(t, "what was handed in: "+about, told(p), before)
}

// wantOrder fails unless a graph has that order (nil: a ring), and stays as it was.
func wantOrder(t *testing.T, g [][]int, want []int, wantIs bool) {
	t.Helper()
	before := told(g)
	got, is := calls.Order(g)
	wantTold(t, "Order of "+before, got, want)
	if is != wantIs {
		t.Errorf("Order of %.800s: %v, want %v", before, is, wantIs)
	}
	wantTold(t, "what was handed in", told(g), before)
}

// wantDeep fails unless a graph has those depths, and all stays as it was.
func wantDeep(t *testing.T, g [][]int, sizes, want []int) {
	t.Helper()
	before := told(g) + " " + told(sizes)
	got := calls.Deep(g, sizes)
	wantTold(t, "Deep of "+before, got, want)
	if len(got) == 0 && got != nil && len(g) > 0 {
		t.Errorf("Deep of %.800s: %#v, want nil", before, got)
	}
	wantTold(t, "what was handed in", told(g)+" "+told(sizes), before)
}

// wantBound fails unless a graph has that bound, and all stays as it was.
func wantBound(t *testing.T, g [][]int, sizes []int, main int, prios []int, want int) {
	t.Helper()
	before := fmt.Sprint(g, sizes, main, prios)
	if got := calls.Bound(g, sizes, main, prios); got != want {
		t.Errorf("Bound of %.800s: %d, want %d", before, got, want)
	}
	wantTold(t, "what was handed in", fmt.Sprint(g, sizes, main, prios), before)
}

// wantCheck fails unless Check answers nil (at -1), or ErrRing at that place; and unless the program stays as it was.
func wantCheck(t *testing.T, about string, p api.Prog, at int) {
	t.Helper()
	before := told(p)
	err := calls.Check(p)
	wantTold(t, "what was handed in: "+about, told(p), before)
	if at < 0 {
		if err != nil {
			t.Errorf("Check of %.800s: %v (%+v), want nil", about, err, err)
		}
		return
	}
	f, is := err.(*api.Fault)
	if !is || f == nil || f.Code != api.ErrRing || f.At != at {
		t.Errorf("Check of %.800s: %T %+v, want ErrRing At %d", about, err, err, at)
	}
}

// example is the chapter's graph.
func example() [][]int {
	return [][]int{{1, 2}, {2}, {}, {2}, {}}
}

// P8.2: the chapter's examples.
func TestP82Examples(t *testing.T) {
	g, sizes := example(), []int{5, 3, 2, 4, 9}
	wantOrder(t, g, []int{2, 1, 0, 3, 4}, true)
	wantDeep(t, g, sizes, []int{10, 5, 2, 6, 9})
	wantBound(t, g, sizes, 0, []int{0, 0, 0, 1, 1}, 19)
	g[2] = []int{0}
	wantOrder(t, g, nil, false)
	wantDeep(t, g, sizes, nil)
	wantBound(t, g, sizes, 0, []int{0, 0, 0, 1, 1}, 0)
}

// P8.2: the document's sixth example: main's depth, the greater one of two handlers of one priority, and that of the third one.
func TestP82SixthExample(t *testing.T) {
	g := calls.Graph(parsed(t, "fn main() { f(); } fn f() { } on 0 priority 1 { f(); } on 1 priority 1 { } on 2 priority 5 { }"))
	wantTold(t, "Graph", g, [][]int{{1}, {}, {1}, {}, {}})
	sizes, prios := []int{3, 10, 200, 209, 4000}, []int{0, 0, 1, 1, 5}
	wantDeep(t, g, sizes, []int{13, 10, 210, 209, 4000})
	wantBound(t, g, sizes, 0, prios, 13+210+4000)
}
