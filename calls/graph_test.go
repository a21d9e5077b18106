package calls_test

import (
	"math"
	"reflect"
	"slices"
	"testing"

	"plover/api"
	"plover/calls"
)

// graphRows are texts, and who calls whom in them.
func graphRows() map[string][][]int {
	return map[string][][]int{
		"":                                {},
		"var x: w16;":                     {},
		"fn main() { }":                   {{}},
		"fn f() { }":                      {{}},
		"fn f() { f(); }":                 {{0}},
		"fn main() { main(); }":           {{0}},
		"fn main() { f(); } fn f() { }":   {{1}, {}},
		"fn f() { } fn main() { f(); }":   {{}, {0}},
		"fn a() { b(); } fn b() { a(); }": {{1}, {0}},
		"fn a() { c(); b(); a(); } fn b() { } fn c() { }":                                                                         {{0, 1, 2}, {}, {}},
		"fn a() { b(); b(); x = b(1, 2); } fn b() { }":                                                                            {{1}, {}},
		"var x: w16; fn a() { x = b(); } fn b(): w16 { return 3; }":                                                               {{1}, {}},
		"on 0 priority 1 { f(); } fn f() { } fn main() { }":                                                                       {{1}, {}, {}},
		"fn main() { } on 3 priority 2 { f(); g(); } fn g() { f(); } fn f() { }":                                                  {{}, {2, 3}, {3}, {}},
		"on 1 priority 1 { on1(); } on 2 priority 1 { f(); } fn f() { }":                                                          {{}, {2}, {}},
		"fn a() { if (1) { b(); } else { c(); } } fn b() { } fn c() { }":                                                          {{1, 2}, {}, {}},
		"fn a() { if (1) { } else { b(); } } fn b() { }":                                                                          {{1}, {}},
		"fn a() { while (1) { b(); } } fn b() { }":                                                                                {{1}, {}},
		"fn a() { critical { b(); } } fn b() { }":                                                                                 {{1}, {}},
		"fn a() { while (1) { if (1) { critical { while (0) { c(); } } } else { d(); } } b(); } fn b() { } fn c() { } fn d() { }": {{1, 2, 3}, {}, {}, {}},
		// What is no call, though it is spelt like the name of a function.
		"fn a() { b = 1; b[b] = b; b.b = b.b; out gpio.out = b + -b; in b = gpio.in; var b: w16 = b; return b; } fn b() { }": {{}, {}},
		"var b: w16; fn a(b: w16) { while (b) { sleep; halt; } } fn b() { }":                                                 {{}, {}},
		"struct b { b: w16; } fn a() { } fn b() { }":                                                                         {{}, {}},
		// Names that no function has.
		"fn a() { b(); }": {{}},
		"fn a() { A(); aa(); c(); } fn b() { } fn c() { c1(); }": {{2}, {}, {}},
		// Of several functions of one name the first one is meant.
		"fn a() { b(); } fn b() { } fn b() { a(); }":                           {{1}, {}, {0}},
		"fn a() { b(); } fn b() { b(); } fn b() { b(); a(); } fn a() { a(); }": {{1}, {1}, {0, 1}, {0}},
	}
}

// P8.1: graphs of texts.
func TestP81Texts(t *testing.T) {
	for text, want := range graphRows() {
		p := parsed(t, text)
		wantGraph(t, text, p, want)
		wantTold(t, "reckoned: "+text, reckonedGraph(p), want)
	}
}

// fn is a function that has that name, with those statements.
func fn(name string, body ...api.Stmt) api.Func {
	return api.Func{Name: name, Vector: -1, Body: body}
}

// on is a handler that has that name, with those statements.
func on(name string, vector int, body ...api.Stmt) api.Func {
	return api.Func{Name: name, Vector: vector, Prio: 1, Body: body}
}

// call is a call of a function.
func call(name string) api.Stmt {
	return api.Stmt{Op: api.SCall, Func: name}
}

func program(all ...api.Func) api.Prog {
	return api.Prog{Funcs: all}
}

// P8.1: names of handlers count for nothing, whatever vectors and names these have, and whether they stand ahead or behind.
func TestP81Handlers(t *testing.T) {
	for _, vector := range []int{0, 1, 7, 8, 100, math.MaxInt} {
		wantGraph(t, "a handler with a name", program(fn("a", call("h")), on("h", vector, call("a"), call("h"))), [][]int{{}, {0}})
		wantGraph(t, "a handler without one", program(fn("a", call("")), on("", vector)), [][]int{{}, {}})
		wantGraph(t, "a handler ahead of a function of its name", program(on("f", vector), fn("a", call("f")), fn("f")), [][]int{{}, {2}, {}})
		wantGraph(t, "a handler behind a function of its name", program(fn("f"), on("f", vector, call("f")), fn("a", call("f"))), [][]int{{}, {0}, {0}})
	}
	for _, vector := range []int{-1, -2, -8, math.MinInt} {
		f := fn("f")
		f.Vector = vector
		wantGraph(t, "a function", program(fn("a", call("f")), f), [][]int{{1}, {}})
	}
}

// P8.1: a function's name is all of it, and any one.
func TestP81Names(t *testing.T) {
	names := []string{"", " ", "f", "f ", "F", "ff", "main", "\x00", "ü", "f\n", "if"}
	for i := range names {
		var all []api.Func
		want := make([][]int, len(names))
		for n, name := range names {
			all = append(all, fn(name))
			if n == i {
				all[n].Body = []api.Stmt{call(names[len(names)-1-i])}
				want[n] = []int{len(names) - 1 - i}
			}
		}
		wantGraph(t, names[i], program(all...), want)
	}
}

// P8.1: of statements of all kinds only calls are calls; those within blocks are found in both blocks of each kind, whichever that is.
func TestP81EveryStatement(t *testing.T) {
	for kind := -2; kind <= api.LastStmt+2; kind++ {
		s := api.Stmt{Op: kind, Func: "b", Name: "c", Field: "c", E: []api.Expr{{Op: api.EName, Name: "c"}}}
		var called []int
		if kind == api.SCall {
			called = []int{1}
		}
		wantGraph(t, "one", program(fn("a", s), fn("b"), fn("c"), fn("d")), [][]int{called, {}, {}, {}})
		s.Body = []api.Stmt{{Op: api.SSleep}, call("c")}
		wantGraph(t, "one with a block", program(fn("a", s), fn("b"), fn("c"), fn("d")), [][]int{append(called, 2), {}, {}, {}})
		s.Else = []api.Stmt{{Op: api.SSleep}, call("d")}
		wantGraph(t, "one with both", program(fn("a", s), fn("b"), fn("c"), fn("d")), [][]int{append(called, 2, 3), {}, {}, {}})
		s.Body = nil
		outer := api.Stmt{Op: api.SIf, Else: []api.Stmt{{Op: api.SCrit, Body: []api.Stmt{s}}}}
		wantGraph(t, "one in blocks", program(fn("a", outer), fn("b"), fn("c"), fn("d")), [][]int{append(called, 3), {}, {}, {}})
	}
}

// P8.1: of nothing, nothing; there is a list for each function.
func TestP81None(t *testing.T) {
	wantGraph(t, "nothing", api.Prog{}, nil)
	wantGraph(t, "no functions", api.Prog{Funcs: []api.Func{}}, nil)
	for many := range 200 {
		if got := calls.Graph(program(make([]api.Func, many)...)); len(got) != many {
			t.Errorf("%d lists of %d functions", len(got), many)
		}
	}
}

// odd makes programs that no other layer makes.
type odd struct {
	dice
}

// fill gives a value any numbers, names and lists.
func (o *odd) fill(v reflect.Value, deep int) {
	switch v.Kind() {
	case reflect.Int, reflect.Int64:
		v.SetInt([]int64{-1, -1, 0, api.SCall, api.SCall, api.SCall, 1, 5, math.MinInt64, math.MaxInt64}[o.below(10)])
	case reflect.String:
		v.SetString([]string{"main", "f", "g", "h", "i", "j", "k", ""}[o.below(8)])
	case reflect.Slice:
		many := o.below(4)
		if deep <= 0 {
			many = 0
		}
		if v.Type() == reflect.TypeFor[[]api.Func]() {
			many = o.below(10)
		}
		if many == 0 && o.below(2) == 0 {
			return
		}
		v.Set(reflect.MakeSlice(v.Type(), many, many+o.below(2)))
		for i := range many {
			o.fill(v.Index(i), deep)
		}
	case reflect.Struct:
		for i := range v.NumField() {
			o.fill(v.Field(i), deep-1)
		}
	}
}

// P8.1, P8.3, P1: any programs, of any kinds and names, against the tests' own reckoning.
func TestP81AnyPrograms(t *testing.T) {
	empty, many, rings, none := 0, 0, 0, 0
	for seed := range 4000 {
		o := &odd{dice: dice(seed)}
		var p api.Prog
		o.fill(reflect.ValueOf(&p).Elem(), 2+seed%4)
		want := reckonedGraph(p)
		wantGraph(t, told(p), p, want)
		for _, called := range want {
			if len(called) > 1 {
				many++
			} else {
				empty++
			}
		}
		all := ringed(want)
		if len(all) == 0 {
			wantCheck(t, told(p), p, -1)
			none++
		} else {
			for i := range p.Funcs {
				p.Funcs[i].At = 5 * i
			}
			wantCheck(t, told(p), p, 5*all[0])
			rings++
		}
		if t.Failed() {
			return
		}
	}
	if empty < 1000 || many < 1000 || rings < 500 || none < 500 {
		t.Errorf("%d with few, %d with many, %d rings, %d without", empty, many, rings, none)
	}
}

// wantApart fails if lists share memory, with what is behind their ends.
func wantApart(t *testing.T, lists ...[]int) {
	t.Helper()
	type room struct{ from, to uintptr }
	var all []room
	for _, list := range lists {
		if cap(list) > 0 {
			from := reflect.ValueOf(list).Pointer()
			all = append(all, room{from, from + uintptr(cap(list))*reflect.TypeFor[int]().Size()})
		}
	}
	slices.SortFunc(all, func(a, b room) int { return int(int64(a.from) - int64(b.from)) })
	for i := range all[1:] {
		if all[i].to > all[i+1].from {
			t.Fatalf("lists share memory: %v", all[i:i+2])
		}
	}
}

// P8.1, P8.2: answers are new memory: no two lists of one share any, nor with what was handed in; to change one changes no later one.
func TestP81Apart(t *testing.T) {
	p := parsed(t, "fn a() { b(); c(); d(); } fn b() { c(); d(); } fn c() { d(); } fn d() { } fn e() { d(); c(); b(); a(); }")
	g, again := calls.Graph(p), calls.Graph(p)
	sizes := []int{1, 2, 3, 4, 5}
	order, _ := calls.Order(g)
	second, _ := calls.Order(g)
	depths, others := calls.Deep(g, sizes), calls.Deep(g, sizes)
	wantApart(t, slices.Concat(g, again, [][]int{sizes, order, second, depths, others})...)
	for _, list := range slices.Concat(g, [][]int{order, depths}) {
		for i := range list {
			list[i] = 77
		}
	}
	wantTold(t, "Graph", calls.Graph(p), again)
	wantOrder(t, again, second, true)
	wantDeep(t, again, sizes, others)
}
