package list_test

import (
	"reflect"
	"slices"
	"testing"

	"plover/api"
	"plover/list"
	"plover/scope"
)

// wholeText is a program with all kinds of statements, and lists of all kinds.
const wholeText = "struct S { p: w16; q: w32; } var n: w16; var a: w32[3]; var s: S; var s2: S; struct T { p: w16; } " +
	"fn f(x: w16, y: w32): w16 { var z: w16 = x + w16(-a[n]); if (z) { var i: w32 = y; i = s.q % 70000; } else { z = f(z, a[a[0]]); } a[x] = w32(z); s2.p = ~z; return z < 40000; } " +
	"on 1 priority 2 { critical { in n = gpio.in; while (!n) { out gpio.out = s.p; f(1, 1 << n); sleep; } } return; } fn main() { var x: w16 = 65535; f(x, 4000000000); halt; }"

// room is the memory of a list, with what is behind its end.
type room struct {
	from, to uintptr
}

// roomsOf tells the memory of all lists of a value.
func roomsOf(v reflect.Value) []room {
	var all []room
	switch v.Kind() {
	case reflect.Slice:
		if v.Cap() > 0 {
			all = append(all, room{v.Pointer(), v.Pointer() + uintptr(v.Cap())*v.Type().Elem().Size()})
		}
		for i := range v.Len() {
			all = append(all, roomsOf(v.Index(i))...)
		}
	case reflect.Struct:
		for i := range v.NumField() {
			all = append(all, roomsOf(v.Field(i))...)
		}
	}
	return all
}

// wantApart fails if two of these share memory.
func wantApart(t *testing.T, all []room) {
	t.Helper()
	slices.SortFunc(all, func(a, b room) int { return int(int64(a.from) - int64(b.from)) })
	for i := range all[1:] {
		if all[i].to > all[i+1].from {
			t.Fatalf("lists share memory: %v", all[i:i+2])
		}
	}
}

// P9.1: what is answered is new memory, and no two lists of it share any.
func TestP91ListsApart(t *testing.T) {
	n := checked(t, wholeText)
	short := folded(n)
	all := roomsOf(reflect.ValueOf(n))
	for range 2 {
		all = append(all, roomsOf(reflect.ValueOf(listed(t, wholeText, n)))...)
	}
	wantApart(t, all)
	all = append(roomsOf(reflect.ValueOf(short.Prog)), roomsOf(reflect.ValueOf(listed(t, wholeText, short)))...)
	wantApart(t, all)
	if len(all) < 60 {
		t.Errorf("only %d lists", len(all))
	}
	// Lists that are shared in what is given are not in what is answered.
	n.Prog.Funcs[1].Body = n.Prog.Funcs[0].Body
	n.Prog.Funcs[1].Params, n.Locals[1] = n.Prog.Funcs[0].Params, n.Locals[0]
	l := listed(t, "shared bodies", n)
	wantTold(t, "both bodies", l.Units[0].Steps, l.Units[1].Steps)
	wantApart(t, roomsOf(reflect.ValueOf(l)))
}

// spoilt changes all numbers and texts of a value, also within its lists, and puts things behind those, into their room.
func spoilt(v reflect.Value) {
	switch v.Kind() {
	case reflect.Int, reflect.Int64:
		v.SetInt(v.Int() + 1000)
	case reflect.String:
		v.SetString("spoilt")
	case reflect.Slice:
		for i := range v.Len() {
			spoilt(v.Index(i))
		}
		v.Set(reflect.Append(v, reflect.Zero(v.Type().Elem())))
	case reflect.Struct:
		for i := range v.NumField() {
			spoilt(v.Field(i))
		}
	}
}

// P9.1: to change an answer changes nothing in what was given, nor in later answers; the other way round, too.
func TestP91AnswersAreTheCallers(t *testing.T) {
	for _, n := range []scope.Names{checked(t, wholeText), folded(checked(t, wholeText))} {
		before := told(n)
		l := listed(t, wholeText, n)
		want := told(l)
		spoilt(reflect.ValueOf(&l).Elem())
		wantTold(t, "the names", told(n), before)
		l = listed(t, wholeText, n)
		wantTold(t, "once more", told(l), want)
		spoilt(reflect.ValueOf(&n).Elem())
		wantTold(t, "the answer", told(l), want)
	}
	n := scope.Names{Prog: api.Prog{Funcs: []api.Func{{Name: "main", At: 7, Vector: -1, Body: make([]api.Stmt, 400)}}}}
	_, err := list.Make(n)
	err.(*api.Fault).At = 99
	wantMany(t, "once more", n, 7)
}

// P9.1: lists that are empty are as those that are nil.
func TestP91EmptyLists(t *testing.T) {
	n := checked(t, "fn main() { if (1) { } else { } critical { } sleep; return; } fn f() { f(); }")
	want := listed(t, "nil lists", n)
	n.Words, n.Prog.Structs, n.Prog.Globals = []api.Word{}, []api.Struct{}, []api.Global{}
	n.Locals = [][]api.Local{{}, {}}
	for i := range n.Prog.Funcs {
		n.Prog.Funcs[i].Params = []api.Param{}
		for j := range n.Prog.Funcs[i].Body {
			s := &n.Prog.Funcs[i].Body[j]
			s.Body, s.Else = []api.Stmt{}, []api.Stmt{}
			if s.Op != api.SIf {
				s.E = []api.Expr{}
			}
		}
	}
	wantTold(t, "empty lists", listed(t, "empty lists", n), want)
	wantTold(t, "nothing", listed(t, "nothing", scope.Names{}), api.List{})
}

// P1, P9.1: blocks within blocks, as deep as the document promises something.
func TestP1Deep(t *testing.T) {
	one := []api.Expr{{Op: api.ENum, N: 1, Type: api.W32}}
	kinds := map[string]func(body []api.Stmt) api.Stmt{
		"if":   func(body []api.Stmt) api.Stmt { return api.Stmt{Op: api.SIf, E: one, Body: body} },
		"else": func(body []api.Stmt) api.Stmt { return api.Stmt{Op: api.SIf, E: one, Else: body} },
		"both": func(body []api.Stmt) api.Stmt {
			return api.Stmt{Op: api.SIf, E: one, Body: []api.Stmt{{Op: api.SSleep}}, Else: body}
		},
		"while":    func(body []api.Stmt) api.Stmt { return api.Stmt{Op: api.SWhile, E: one, Body: body} },
		"critical": func(body []api.Stmt) api.Stmt { return api.Stmt{Op: api.SCrit, Body: body} },
	}
	for name, kind := range kinds {
		body := []api.Stmt{{Op: api.SSleep}}
		for range 1<<16 - 4 {
			body = []api.Stmt{kind(body)}
		}
		n := scope.Names{Prog: api.Prog{Funcs: []api.Func{{Name: "main", At: 5, Vector: -1, Body: body}}}}
		l, err := list.Make(n)
		if f, is := err.(*api.Fault); !is || *f != (api.Fault{Code: api.ErrMany, At: 5}) || len(l.Units) > 0 {
			t.Errorf("%s: %v", name, err)
		}
	}
	value := api.Expr{Op: api.ELocal, Type: api.W16}
	for range 1<<16 - 4 {
		value = api.Expr{Op: api.ENeg, Type: api.W16, Args: []api.Expr{value}}
	}
	n := scope.Names{Prog: api.Prog{Funcs: []api.Func{{Name: "main", Vector: -1, Body: []api.Stmt{{Op: api.SOut, E: []api.Expr{value}}}}}}}
	l, err := list.Make(n)
	if err != nil {
		t.Fatal(err)
	}
	e := l.Units[0].Steps[0].E[0]
	for e.Op == api.ENeg {
		e = e.Args[0]
	}
	wantTold(t, "deep within", e, api.Expr{Op: api.ELocal, Type: api.W16})
}

// odd makes names that no check answers.
type odd struct {
	dice
}

// number answers a number; most are such that mean something.
func (o *odd) number() int {
	switch o.below(12) {
	case 0:
		return -1 - o.below(3)
	case 1:
		return 1 << 62 >> o.below(63)
	case 2:
		return -1 << 63 >> o.below(63)
	}
	return o.below(32)
}

// fill gives a value any numbers, names and lists.
func (o *odd) fill(v reflect.Value, deep int) {
	switch v.Kind() {
	case reflect.Int, reflect.Int64:
		v.SetInt(int64(o.number()))
	case reflect.String:
		v.SetString(o.pick([]string{"main", "f", "f", "x", "", "s.p", "\x00"}))
	case reflect.Slice:
		many := o.below(4)
		if deep <= 0 {
			many = 0
		}
		if many == 0 && o.below(2) == 0 {
			return
		}
		v.Set(reflect.MakeSlice(v.Type(), many, many+o.below(2)))
		for i := range many {
			o.fill(v.Index(i), deep)
		}
	case reflect.Struct:
		for i := range v.NumField() {
			o.fill(v.Field(i), deep-1)
		}
	}
}

// P1: at all arguments Make ends, without a panic: with a list, or with a fault beside an empty one; what was given stays as it was.
func TestP1OddNames(t *testing.T) {
	right, many := 0, 0
	for seed := range 1500 {
		o := &odd{dice(seed)}
		var n scope.Names
		o.fill(reflect.ValueOf(&n).Elem(), 6)
		before := told(n)
		l, err := list.Make(n)
		if told(n) != before {
			t.Fatalf("the names were\n%s\nand are\n%s", before, told(n))
		}
		if err != nil {
			many++
			f, is := err.(*api.Fault)
			if !is || f == nil || f.Code != api.ErrMany || told(l) != told(api.List{}) {
				t.Fatalf("%s: %T %v, %s", before, err, err, told(l))
			}
			continue
		}
		right++
		wantTold(t, "words", l.Words, n.Words)
		wantTold(t, "how many units", len(l.Units), len(n.Prog.Funcs))
		wantApart(t, append(roomsOf(reflect.ValueOf(n)), append(roomsOf(reflect.ValueOf(l)), room{})...))
	}
	if right < 1000 {
		t.Errorf("%d right, %d with too many steps", right, many)
	}
}

// P1: statements of each kind, and of kinds that there are not, that lack expressions, or have too many, or targets of any kind.
func TestP1Lacking(t *testing.T) {
	for kind := -1; kind <= api.LastStmt+1; kind++ {
		for op := -1; op <= api.LastExpr+1; op++ {
			for many := range 4 {
				for ref := -1; ref < 4; ref++ {
					all := slices.Repeat([]api.Expr{{Op: op, Ref: ref, Args: make([]api.Expr, many)}}, many)
					for _, name := range []string{"", "x"} {
						s := api.Stmt{Op: kind, Name: name, Func: "f", E: all}
						f := api.Func{Name: "f", Vector: -1, Params: make([]api.Param, many), Body: []api.Stmt{s, s}}
						n := scope.Names{Prog: api.Prog{Funcs: []api.Func{f, f}}, Locals: [][]api.Local{make([]api.Local, 2)}}
						before := told(n)
						if _, err := list.Make(n); err != nil {
							t.Fatalf("%s: %v", before, err)
						}
						wantTold(t, "what was handed in", told(n), before)
					}
				}
			}
		}
	}
}

// P9.1: a handler is neither called nor main, whatever name it has; of several functions of one name the first one is meant.
func TestP91OddFunctions(t *testing.T) {
	handler := func(name string) api.Func { return api.Func{Name: name, Vector: 2, Prio: 1} }
	main := api.Func{Name: "main", Vector: -1, Body: []api.Stmt{{Op: api.SCall, Func: "f"}}}
	f := api.Func{Name: "f", Vector: -1}
	for _, funcs := range [][]api.Func{{handler("main"), handler("f"), f, main}, {handler("f"), f, main, f, main}, {f, handler("f"), main, f, handler("main")}} {
		n := scope.Names{Prog: api.Prog{Funcs: funcs}}
		l := listed(t, "functions", n)
		wantMain := slices.IndexFunc(funcs, func(f api.Func) bool { return f.Name == "main" && f.Vector < 0 })
		wantF := slices.IndexFunc(funcs, func(f api.Func) bool { return f.Name == "f" && f.Vector < 0 })
		wantTold(t, "main, and f", []int{l.Main, l.Units[wantMain].Steps[0].Func}, []int{wantMain, wantF})
		for i, f := range funcs {
			if f.Vector >= 0 {
				wantTold(t, "a handler's name", l.Units[i].Name, "on 2")
			}
		}
	}
}
