package types_test

import (
	"reflect"
	"slices"
	"testing"

	"plover/api"
	"plover/scope"
	"plover/types"
)

// wholeText is a program with all kinds of statements and expressions, and lists of all kinds.
const wholeText = "struct S { p: w16; q: w32; } var n: w16; var a: w32[3]; var s: S; var s2: S; struct T { p: w16; } " +
	"fn f(x: w16, y: w32): w16 { var z: w16 = x + w16(-a[n]); if (z) { var i: w32 = y; i = s.q % 70000; } else { z = f(z, a[a[0]]); } a[x] = w32(z); s2.p = ~z; return z < 40000; } " +
	"on 1 priority 2 { critical { in n = gpio.in; while (!n) { out gpio.out = s.p; f(1, 1 << n); sleep; } } return; } fn main() { var x: w16 = 65535; f(x, 4000000000); halt; }"

// room is the memory of a list, with what is behind its end.
type room struct {
	from, to uintptr
}

// roomsOf tells the memory of all lists of a value.
func roomsOf(v reflect.Value) []room {
	var all []room
	switch v.Kind() {
	case reflect.Slice:
		if v.Cap() > 0 {
			all = append(all, room{v.Pointer(), v.Pointer() + uintptr(v.Cap())*v.Type().Elem().Size()})
		}
		for i := range v.Len() {
			all = append(all, roomsOf(v.Index(i))...)
		}
	case reflect.Struct:
		for i := range v.NumField() {
			all = append(all, roomsOf(v.Field(i))...)
		}
	}
	return all
}

// wantApart fails if two of these share memory.
func wantApart(t *testing.T, all []room) {
	t.Helper()
	slices.SortFunc(all, func(a, b room) int { return int(int64(a.from) - int64(b.from)) })
	for i := range all[1:] {
		if all[i].to > all[i+1].from {
			t.Fatalf("lists share memory: %v", all[i:i+2])
		}
	}
}

// P6.1: what is answered is new memory, and no two lists of it share any.
func TestP61ListsApart(t *testing.T) {
	n := resolved(t, wholeText)
	c := checked(t, wholeText)
	again, err := types.Check(n)
	if err != nil {
		t.Fatal(err)
	}
	once, err := types.Check(again)
	if err != nil {
		t.Fatal(err)
	}
	all := roomsOf(reflect.ValueOf(c))
	if len(all) < 40 {
		t.Errorf("only %d lists", len(all))
	}
	for _, other := range []scope.Names{n, again, once} {
		all = append(all, roomsOf(reflect.ValueOf(other))...)
	}
	wantApart(t, all)
}

// P6.1: lists that are shared in what is given are not in what is answered.
func TestP61SharedLists(t *testing.T) {
	n := resolved(t, "var n: w16; var a: w16[3]; fn f(x: w16) { if (n) { a[x] = n + 1; f(x); } } fn g(x: w16) { } fn main() { }")
	body := n.Prog.Funcs[0].Body[0].Body
	n.Prog.Funcs[0].Body[0].Else = body
	n.Prog.Funcs[1].Params, n.Prog.Funcs[1].Body = n.Prog.Funcs[0].Params, n.Prog.Funcs[0].Body
	n.Locals[1] = n.Locals[0]
	before := told(n)
	c, err := types.Check(n)
	if err != nil {
		t.Fatal(err)
	}
	wantTold(t, "the names", told(n), before)
	wantTold(t, "both blocks", c.Prog.Funcs[0].Body[0].Body, c.Prog.Funcs[0].Body[0].Else)
	wantTold(t, "both functions", c.Prog.Funcs[0].Body, c.Prog.Funcs[1].Body)
	wantApart(t, roomsOf(reflect.ValueOf(c)))
}

// spoilt changes all numbers and texts of a value, also within its lists, and puts things behind those, into their room.
func spoilt(v reflect.Value) {
	switch v.Kind() {
	case reflect.Int, reflect.Int64:
		v.SetInt(v.Int() + 1000)
	case reflect.String:
		v.SetString("spoilt")
	case reflect.Slice:
		for i := range v.Len() {
			spoilt(v.Index(i))
		}
		v.Set(reflect.Append(v, reflect.Zero(v.Type().Elem())))
	case reflect.Struct:
		for i := range v.NumField() {
			spoilt(v.Field(i))
		}
	}
}

// P6.1: to change an answer changes nothing in what was given, nor in later answers; the other way round, too.
func TestP61AnswersAreTheCallers(t *testing.T) {
	n := resolved(t, wholeText)
	before := told(n)
	c, _ := types.Check(n)
	want := told(c)
	spoilt(reflect.ValueOf(&c).Elem())
	wantTold(t, "the names", told(n), before)
	c, _ = types.Check(n)
	wantTold(t, "once more", told(c), want)
	spoilt(reflect.ValueOf(&n).Elem())
	wantTold(t, "the answer", told(c), want)

	n = resolved(t, "var x: w16; var y: w32; fn main() { x = y; }")
	_, err := types.Check(n)
	err.(*api.Fault).At = 99
	wantFaultOf(t, "", n, api.ErrType, 40)
}

// P6.1: lists that are empty are as those that are nil.
func TestP61EmptyLists(t *testing.T) {
	n := resolved(t, "fn main() { if (1) { } else { } critical { } sleep; return; } fn f() { f(); }")
	want, err := types.Check(n)
	if err != nil {
		t.Fatal(err)
	}
	n.Words, n.Prog.Structs, n.Prog.Globals = []api.Word{}, []api.Struct{}, []api.Global{}
	n.Locals = [][]api.Local{{}, {}}
	for i := range n.Prog.Funcs {
		n.Prog.Funcs[i].Params = []api.Param{}
		for j := range n.Prog.Funcs[i].Body {
			s := &n.Prog.Funcs[i].Body[j]
			s.Body, s.Else = []api.Stmt{}, []api.Stmt{}
			if s.Op != api.SIf {
				s.E = []api.Expr{}
			}
		}
	}
	n.Prog.Funcs[0].Body[0].E[0].Args = []api.Expr{}
	got, err := types.Check(n)
	if err != nil {
		t.Fatal(err)
	}
	wantTold(t, "with empty lists", got, want)
	empty, err := types.Check(scope.Names{})
	if err != nil {
		t.Error(err)
	}
	wantTold(t, "of nothing", empty, scope.Names{})
}

// nested are names of statements of that kind so deep within each other, with expressions of that kind as deep; the innermost number is that one.
func nested(kind, op, deep int, number int64) scope.Names {
	value := api.Expr{Op: api.ENum, At: 77, N: number}
	for range deep {
		value = api.Expr{Op: op, Args: []api.Expr{value, {Op: api.ENum, N: 3}}[:operands(op)]}
	}
	x := api.Expr{Op: api.EWord, Name: "x", Type: api.W16}
	body := []api.Stmt{{Op: api.SSet, Name: "x", E: []api.Expr{x, value}}}
	for range deep {
		body = []api.Stmt{{Op: kind, E: []api.Expr{{Op: api.ENum, N: 1}}, Body: body}}
	}
	return scope.Names{Prog: api.Prog{Funcs: []api.Func{{Name: "main", Vector: -1, Body: body}}}}
}

func operands(op int) int {
	if op >= api.EMul {
		return 2
	}
	return 1
}

// P1, P6.1: trees of the most nesting of which the document promises something.
func TestP61Deep(t *testing.T) {
	const deep = 1<<15 - 4
	for _, kind := range []int{api.SIf, api.SWhile, api.SCrit} {
		for _, op := range []int{api.ENeg, api.ENot, api.EAdd, api.EShl} {
			c, err := types.Check(nested(kind, op, deep, 40000))
			if err != nil {
				t.Fatal(err)
			}
			body := c.Prog.Funcs[0].Body
			for range deep {
				body = body[0].Body
			}
			e := body[0].E[1]
			for range deep {
				e = e.Args[0]
			}
			wantTold(t, "deep within", e, api.Expr{Op: api.ENum, At: 77, N: -25536, Type: api.W16})
			c, err = types.Check(nested(kind, op, deep, 65536))
			if f, is := err.(*api.Fault); !is || *f != (api.Fault{Code: api.ErrNumber, At: 77}) || len(c.Prog.Funcs) > 0 {
				t.Errorf("%v (%+v)", err, err)
			}
		}
	}
}

// odd makes names that Resolve never makes.
type odd struct {
	dice
}

// number answers a number; most are such that mean something.
func (o *odd) number() int {
	switch o.below(12) {
	case 0:
		return -1 - o.below(3)
	case 1:
		return 1 << 62 >> o.below(63)
	case 2:
		return -1 << 63 >> o.below(63)
	}
	return o.below(32)
}

// fill gives a value any numbers, names and lists.
func (o *odd) fill(v reflect.Value, deep int) {
	switch v.Kind() {
	case reflect.Int, reflect.Int64:
		v.SetInt(int64(o.number()))
	case reflect.String:
		v.SetString(o.pick([]string{"main", "f", "f", "x", "", "s.p", "\x00"}))
	case reflect.Slice:
		many := o.below(4)
		if deep <= 0 {
			many = 0
		}
		if many == 0 && o.below(2) == 0 {
			return
		}
		v.Set(reflect.MakeSlice(v.Type(), many, many+o.below(2)))
		for i := range many {
			o.fill(v.Index(i), deep)
		}
	case reflect.Struct:
		for i := range v.NumField() {
			o.fill(v.Field(i), deep-1)
		}
	}
}

// mended gives most expressions and statements a kind that there is, and types of numbers.
func (o *odd) mended(v reflect.Value) {
	switch v.Kind() {
	case reflect.Slice:
		for i := range v.Len() {
			o.mended(v.Index(i))
		}
	case reflect.Struct:
		for i := range v.NumField() {
			o.mended(v.Field(i))
			name := v.Type().Field(i).Name
			if (name == "Type" || name == "Result") && o.below(3) > 0 {
				v.Field(i).SetInt(api.W16)
			}
		}
	}
}

// P1: at all arguments Check ends, without a panic: with names, or with a fault beside zero names; what was given stays as it was.
func TestP1OddNames(t *testing.T) {
	right, faults := 0, map[api.Errno]int{}
	for seed := range 3000 {
		o := &odd{dice: dice(seed)}
		var n scope.Names
		o.fill(reflect.ValueOf(&n).Elem(), 6)
		o.mended(reflect.ValueOf(&n).Elem())
		before := told(n)
		c, err := types.Check(n)
		if told(n) != before {
			t.Fatalf("the names were\n%s\nand are\n%s", before, told(n))
		}
		if err == nil {
			right++
			wantTold(t, "words", c.Words, n.Words)
			wantTold(t, "locals", c.Locals, n.Locals)
			continue
		}
		f, is := err.(*api.Fault)
		if !is || f == nil || told(c) != told(scope.Names{}) {
			t.Fatalf("%s: %T %v, %s", before, err, err, told(c))
		}
		faults[f.Code]++
	}
	if right < 300 || len(faults) < 3 {
		t.Errorf("%d right, and %v", right, faults)
	}
}

// P1: statements and expressions of each kind, and of kinds that there are not, that lack expressions, or have too many.
func TestP1Lacking(t *testing.T) {
	for kind := -1; kind <= api.LastStmt+1; kind++ {
		for op := -1; op <= api.LastExpr+1; op++ {
			for many := range 4 {
				for has := range 4 {
					e := api.Expr{Op: op, Type: has, N: 1 << 62, Args: make([]api.Expr, many)}
					all := slices.Repeat([]api.Expr{e}, has)
					for _, name := range []string{"", "x"} {
						s := api.Stmt{Op: kind, Name: name, Func: "f", E: all}
						f := api.Func{Name: "f", Vector: -1, Params: make([]api.Param, many), Result: has % 3, Body: []api.Stmt{s}}
						c, err := types.Check(scope.Names{Prog: api.Prog{Funcs: []api.Func{f}}})
						if err != nil && told(c) != told(scope.Names{}) {
							t.Fatalf("%v beside an error", c)
						}
					}
				}
			}
		}
	}
}

// P6.1: a handler can't be called by a name, and returns nothing, whatever else it may have; of functions with one name the first one is called.
func TestP61OddFunctions(t *testing.T) {
	call := api.Stmt{Op: api.SCall, At: 9, Func: "f", E: []api.Expr{{Op: api.ENum, At: 11, N: 40000}}}
	handler := api.Func{Name: "f", Vector: 0, Params: []api.Param{{Type: api.W16}}, Result: api.W16}
	main := api.Func{Name: "main", Vector: -1, Body: []api.Stmt{call}}
	f := api.Func{Name: "f", Vector: -1, Params: []api.Param{{Type: api.W32}}}
	other := api.Func{Name: "f", Vector: -1, Params: []api.Param{{Type: api.W16}}}
	for _, funcs := range [][]api.Func{{main, handler, f, other}, {handler, f, main, other}, {f, other, handler, main}} {
		c, err := types.Check(scope.Names{Prog: api.Prog{Funcs: funcs}})
		if err != nil {
			t.Fatal(err)
		}
		at := slices.IndexFunc(funcs, func(f api.Func) bool { return f.Name == "main" })
		wantTold(t, "the argument", typedStatements(c.Prog.Funcs[at].Body), "40000:32")
	}
	for vector := range api.Vectors {
		handler.Vector = vector
		handler.Body = []api.Stmt{{Op: api.SReturn, At: 5}}
		if _, err := types.Check(scope.Names{Prog: api.Prog{Funcs: []api.Func{handler}}}); err != nil {
			t.Error(err)
		}
		handler.Body[0].E = []api.Expr{{Op: api.ENum, N: 1}}
		wantFaultOf(t, "a handler's return", scope.Names{Prog: api.Prog{Funcs: []api.Func{handler}}}, api.ErrValue, 5)
	}
}
