package scope_test

import (
	"errors"
	"reflect"
	"slices"
	"testing"

	"plover/api"
	"plover/scope"
)

// wholeText is a program with all kinds of statements and expressions, and lists of all kinds.
const wholeText = "struct S { p: w16; q: w32; } var n: w16; var a: w32[3]; var s: S; var s2: S; struct T { p: w16; } " +
	"fn f(x: w16, y: w32): w16 { var z: w16 = x + -a[n]; if (z) { var i: w32 = y; i = s.q; } else { z = f(z, a[a[0]]); } a[x] = w16(z); s2.p = ~y; return z; } " +
	"on 1 priority 2 { critical { in n = gpio.in; while (!n) { out gpio.out = s.p; f(1, n); sleep; } } return; } fn main() { var x: w16 = 1; f(x, x); halt; }"

// room is the memory of a list, with what is behind its end.
type room struct {
	from, to uintptr
}

// roomsOf tells the memory of all lists of a value.
func roomsOf(v reflect.Value) []room {
	var all []room
	switch v.Kind() {
	case reflect.Slice:
		if v.Cap() > 0 {
			all = append(all, room{v.Pointer(), v.Pointer() + uintptr(v.Cap())*v.Type().Elem().Size()})
		}
		for i := range v.Len() {
			all = append(all, roomsOf(v.Index(i))...)
		}
	case reflect.Struct:
		for i := range v.NumField() {
			all = append(all, roomsOf(v.Field(i))...)
		}
	}
	return all
}

// wantApart fails if two of these share memory.
func wantApart(t *testing.T, all []room) {
	t.Helper()
	slices.SortFunc(all, func(a, b room) int { return int(int64(a.from) - int64(b.from)) })
	for i := range all[1:] {
		if all[i].to > all[i+1].from {
			t.Fatalf("lists share memory: %v", all[i:i+2])
		}
	}
}

// P5.1: what is answered is new memory, and no two lists of it share any.
func TestP51ListsApart(t *testing.T) {
	p := parsed(t, wholeText)
	n, err := scope.Resolve(p)
	if err != nil {
		t.Fatal(err)
	}
	again, _ := scope.Resolve(p)
	all := roomsOf(reflect.ValueOf(n))
	if len(all) < 30 {
		t.Errorf("only %d lists", len(all))
	}
	all = append(all, roomsOf(reflect.ValueOf(again))...)
	wantApart(t, append(all, roomsOf(reflect.ValueOf(p))...))
}

// P5.1: lists that are shared in what is given are not in what is answered.
func TestP51SharedLists(t *testing.T) {
	p := parsed(t, "var n: w16; var a: w16[3]; fn f(x: w16) { if (n) { a[x] = n + x; f(x); } } fn g(x: w16) { } fn main() { }")
	body := p.Funcs[0].Body[0].Body
	p.Funcs[0].Body[0].Else = body
	p.Funcs[1].Params, p.Funcs[1].Body = p.Funcs[0].Params, p.Funcs[0].Body
	before := told(p)
	n, err := scope.Resolve(p)
	if err != nil {
		t.Fatal(err)
	}
	wantTold(t, "the program", told(p), before)
	wantTold(t, "both blocks", n.Prog.Funcs[0].Body[0].Body, n.Prog.Funcs[0].Body[0].Else)
	wantTold(t, "both functions", n.Prog.Funcs[0].Body, n.Prog.Funcs[1].Body)
	wantApart(t, roomsOf(reflect.ValueOf(n)))
}

// spoilt changes all numbers and texts of a value, also within its lists, and puts things behind those, into their room.
func spoilt(v reflect.Value) {
	switch v.Kind() {
	case reflect.Int, reflect.Int64:
		v.SetInt(v.Int() + 1000)
	case reflect.String:
		v.SetString("spoilt")
	case reflect.Slice:
		for i := range v.Len() {
			spoilt(v.Index(i))
		}
		v.Set(reflect.Append(v, reflect.Zero(v.Type().Elem())))
	case reflect.Struct:
		for i := range v.NumField() {
			spoilt(v.Field(i))
		}
	}
}

// P5.1: to change an answer changes nothing in what was given, nor in later answers; the other way round, too.
func TestP51AnswersAreTheCallers(t *testing.T) {
	p := parsed(t, wholeText)
	before := told(p)
	n, _ := scope.Resolve(p)
	want := told(n)
	spoilt(reflect.ValueOf(&n).Elem())
	wantTold(t, "the program", told(p), before)
	n, _ = scope.Resolve(p)
	wantTold(t, "once more", told(n), want)
	spoilt(reflect.ValueOf(&p).Elem())
	wantTold(t, "the answer", told(n), want)

	_, err := scope.Resolve(api.Prog{})
	err.(*api.Fault).At = 99
	wantFault(t, "", api.ErrMain, 0)
}

// P5.1: the same program has the same answer each time, and lists that are empty are as those that are nil.
func TestP51EmptyLists(t *testing.T) {
	p := parsed(t, "struct S { x: w16; } fn main() { if (1) { } else { } critical { } sleep; return; } fn f() { }")
	want, err := scope.Resolve(p)
	if err != nil {
		t.Fatal(err)
	}
	p.Globals = []api.Global{}
	p.Funcs[1].Params, p.Funcs[1].Body = []api.Param{}, []api.Stmt{}
	for i := range p.Funcs[0].Body {
		s := &p.Funcs[0].Body[i]
		s.Body, s.Else = []api.Stmt{}, []api.Stmt{}
		if s.Op != api.SIf {
			s.E = []api.Expr{}
		}
	}
	p.Funcs[0].Body[0].E[0].Args = []api.Expr{}
	got, err := scope.Resolve(p)
	if err != nil {
		t.Fatal(err)
	}
	wantTold(t, "with empty lists", got, want)
}

// nested is a program with statements of that kind so deep within each other, an expression as deep, and an index, too.
func nested(kind, deep int) api.Prog {
	value := api.Expr{Op: api.EName, Name: "x"}
	index := value
	for range deep {
		value = api.Expr{Op: api.ENeg, Args: exprs(value)}
		index = api.Expr{Op: api.EElem, Name: "a", Args: exprs(index)}
	}
	s := api.Stmt{Op: api.SSet, Name: "x", E: exprs(value)}
	t := api.Stmt{Op: api.SCell, Name: "a", E: exprs(index, num(0, 1))}
	body := []api.Stmt{s, t}
	for range deep {
		body = []api.Stmt{{Op: kind, E: exprs(num(0, 1)), Body: body}}
	}
	return api.Prog{
		Globals: []api.Global{{Name: "a", Type: api.W32, Count: 9}},
		Funcs:   []api.Func{{Name: "f", Vector: -1, Params: []api.Param{{Name: "x", Type: api.W16}}, Body: body}, {Name: "main", Vector: -1}},
	}
}

// P1, P5.1: trees of the most nesting of which the document promises something.
func TestP51Deep(t *testing.T) {
	const deep = 1<<15 - 4
	for _, kind := range []int{api.SIf, api.SWhile, api.SCrit} {
		n, err := scope.Resolve(nested(kind, deep))
		if err != nil {
			t.Fatal(err)
		}
		body := n.Prog.Funcs[0].Body
		for range deep {
			body = body[0].Body
		}
		value, index := body[0].E[1], body[1].E[0].Args[0]
		for range deep {
			value, index = value.Args[0], index.Args[0]
		}
		want := exprs(local(0, "x", api.W16, 0), local(0, "x", api.W16, 0), local(0, "x", api.W16, 0))
		wantTold(t, "deep within", exprs(body[0].E[0], value, index), want)
	}
}

// odd makes programs that Parse never makes.
type odd struct {
	dice
}

// number answers a number; most are such that mean something.
func (o *odd) number() int {
	switch o.below(12) {
	case 0:
		return -1 - o.below(3)
	case 1:
		return 1 << 62 >> o.below(63)
	case 2:
		return -1 << 63 >> o.below(63)
	}
	return o.below(40)
}

// fill gives a value any numbers, names and lists.
func (o *odd) fill(v reflect.Value, deep int) {
	switch v.Kind() {
	case reflect.Int, reflect.Int64:
		v.SetInt(int64(o.number()))
	case reflect.String:
		v.SetString(o.pick([]string{"main", "main", "x", "y", "s", "S", "f", "", "s.p", "\x00"}))
	case reflect.Slice:
		many := o.below(4)
		if deep <= 0 {
			many = 0
		}
		if many == 0 && o.below(2) == 0 {
			return
		}
		v.Set(reflect.MakeSlice(v.Type(), many, many+o.below(2)))
		for i := range many {
			o.fill(v.Index(i), deep)
		}
	case reflect.Struct:
		for i := range v.NumField() {
			o.fill(v.Field(i), deep-1)
		}
	}
}

// program is one of any parts, mended as far as faults that would be told at once.
func (o *odd) program() api.Prog {
	var p api.Prog
	o.fill(reflect.ValueOf(&p).Elem(), 6)
	if o.below(3) > 0 {
		p.Structs = []api.Struct{{Name: "S", Fields: []api.Param{{Name: "p", Type: o.number()}}}}
		p.Globals = []api.Global{{Name: "x", Type: o.number(), Count: -o.below(3)}, {Name: "y", Count: 1 + o.below(9)}, {Name: "s", Struct: "S", Count: o.number()}}
		f := api.Func{Name: "f", Vector: -1 - o.below(2)}
		o.fill(reflect.ValueOf(&f.Body).Elem(), 5)
		p.Funcs = []api.Func{f, {Name: "main", Vector: -1}}
	}
	return p
}

// P1: at all arguments Resolve ends, without a panic: with names, or with a fault beside zero names; what was given stays as it was.
func TestP1OddPrograms(t *testing.T) {
	right, faults := 0, map[api.Errno]int{}
	for seed := range 1000 {
		o := &odd{dice: dice(seed)}
		p := o.program()
		before := told(p)
		n, err := scope.Resolve(p)
		if told(p) != before {
			t.Fatalf("the program was\n%s\nand is\n%s", before, told(p))
		}
		if err == nil {
			right++
			continue
		}
		f, is := err.(*api.Fault)
		if !is || f == nil || told(n) != told(scope.Names{}) {
			t.Fatalf("%s: %T %v, %s", before, err, err, told(n))
		}
		faults[f.Code]++
	}
	if right < 50 || len(faults) < 4 {
		t.Errorf("%d right, and %v", right, faults)
	}
}

// P1: statements that lack expressions, and great counts.
func TestP1Lacking(t *testing.T) {
	for kind := -1; kind <= api.LastStmt+1; kind++ {
		for many := range 3 {
			s := api.Stmt{Op: kind, Name: "x", Func: "f", Field: "p", E: make([]api.Expr, many)}
			for i, g := range []api.Global{{Name: "x"}, {Name: "x", Count: 3}, {Name: "x", Struct: "S"}, {Name: "x", Struct: "none"}, {Name: "x", Count: 1 << 62}, {Name: "x", Count: -1 << 63}} {
				p := api.Prog{
					Structs: []api.Struct{{Name: "S", Fields: []api.Param{{Name: "p"}}}},
					Globals: []api.Global{{Name: "y", Count: 511}, g},
					Funcs:   []api.Func{{Name: "f", Vector: -1, Body: []api.Stmt{s}}, {Name: "main", Vector: -1}},
				}
				if _, err := scope.Resolve(p); i == 4 && err == nil {
					t.Errorf("so many elements are no fault")
				}
				p.Globals = p.Globals[1:]
				scope.Resolve(p)
			}
		}
	}
}

// P5.1: a handler has no name of the program's, whatever its vector; what calls that name calls nothing.
func TestP51HandlersHaveNoNames(t *testing.T) {
	for vector := range api.Vectors {
		handler := api.Func{Name: "main", At: 7, Vector: vector}
		_, err := scope.Resolve(api.Prog{Funcs: []api.Func{handler}})
		if !errors.Is(err, api.ErrMain) {
			t.Errorf("vector %d: %v, want %v", vector, err, api.ErrMain)
		}
		handler.Name = "h"
		main := api.Func{Name: "main", Vector: -1, Body: []api.Stmt{{Op: api.SCall, At: 9, Func: "h"}}}
		_, err = scope.Resolve(api.Prog{Funcs: []api.Func{handler, main}})
		if !errors.Is(err, api.ErrName) {
			t.Errorf("vector %d: %v, want %v", vector, err, api.ErrName)
		}
	}
}
