package print_test

import (
	"reflect"
	"testing"

	"plover/api"
	"plover/print"
)

// filled fills a value with numbers and texts that are not empty, each another one, and each list with two things: so many structs deep.
func filled(v reflect.Value, deep int, next *int) {
	*next++
	switch v.Kind() {
	case reflect.Int, reflect.Int64:
		v.SetInt(int64(*next))
	case reflect.String:
		v.SetString("n" + string(rune('a'+*next%26)))
	case reflect.Slice:
		if deep > 0 {
			v.Set(reflect.MakeSlice(v.Type(), 2, 5))
		} else if *next%2 == 0 {
			v.Set(reflect.MakeSlice(v.Type(), 0, 3))
		}
		for i := range v.Len() {
			filled(v.Index(i), deep, next)
		}
	case reflect.Struct:
		for i := range v.NumField() {
			filled(v.Field(i), deep-1, next)
		}
	}
}

// fullProgram is one in which nothing is 0 or empty, but lists deep within: they are nil, or not.
func fullProgram() api.Prog {
	var p api.Prog
	next := 0
	filled(reflect.ValueOf(&p).Elem(), 6, &next)
	return p
}

// isPlace tells whether a field tells a place, or a line.
func isPlace(field string) bool {
	return field == "At" || field == "Line" || field == "End"
}

// wantBare fails unless got is as p is, but for places and lines, which are 0, and for lists that are empty, which are nil; it tells how much it saw.
func wantBare(t *testing.T, got, p reflect.Value, seen map[string]int) {
	t.Helper()
	switch p.Kind() {
	case reflect.Slice:
		if got.Len() != p.Len() || p.Len() == 0 && !got.IsNil() {
			t.Fatalf("%#v, want what is bare of %#v", got, p)
		}
		if p.Len() == 0 && !p.IsNil() {
			seen["empty "+p.Type().String()]++
		}
		for i := range p.Len() {
			wantBare(t, got.Index(i), p.Index(i), seen)
		}
	case reflect.Struct:
		for i := range p.NumField() {
			field := p.Type().Field(i).Name
			if !isPlace(field) {
				wantBare(t, got.Field(i), p.Field(i), seen)
				continue
			}
			if !got.Field(i).IsZero() {
				t.Errorf("%s of %#v is %v, want 0", field, p, got.Field(i))
			}
			if !p.Field(i).IsZero() {
				seen[p.Type().Name()+"."+field]++
			}
		}
	default:
		if !got.Equal(p) {
			t.Errorf("%v, want %v", got, p)
		}
	}
}

// P4.2: all places and lines are 0, and empty lists nil, at every depth; all else stays, and the program, too.
func TestP42Bare(t *testing.T) {
	p := fullProgram()
	before := told(p)
	seen := map[string]int{}
	wantBare(t, reflect.ValueOf(print.Bare(p)), reflect.ValueOf(p), seen)
	if told(p) != before {
		t.Errorf("Bare changed the program that was given")
	}
	for _, what := range []string{
		"Struct.At", "Param.At", "Global.At", "Func.At", "Func.Line", "Func.End", "Stmt.At", "Stmt.Line", "Stmt.End", "Expr.At",
		"empty []api.Expr", "empty []api.Stmt",
	} {
		if seen[what] < 5 && what != "Struct.At" && what != "Global.At" && what[:4] != "Func" || seen[what] == 0 {
			t.Errorf("only %d of %s were there to be seen", seen[what], what)
		}
	}
}

// P4.2: each list that is empty, and not nil.
func TestP42EmptyLists(t *testing.T) {
	none, no := exprs(), stmts()
	for _, p := range []api.Prog{
		{Structs: []api.Struct{}, Globals: []api.Global{}, Funcs: []api.Func{}},
		{Structs: []api.Struct{{Name: "S", At: 3, Fields: []api.Param{}}}},
		{Funcs: []api.Func{{Name: "f", Line: 2, Params: []api.Param{}, Body: no}}},
		{Funcs: []api.Func{{Body: stmts(api.Stmt{Op: api.SIf, End: 7, E: none, Body: no, Else: no})}}},
		{Funcs: []api.Func{{Body: stmts(api.Stmt{Op: api.SSet, E: exprs(api.Expr{Op: api.ENum, At: 5, Args: none})})}}},
		{Funcs: []api.Func{{Body: stmts(api.Stmt{Body: stmts(api.Stmt{E: none})}, api.Stmt{Else: stmts(api.Stmt{Body: no})})}}},
		{Funcs: []api.Func{{Body: stmts(api.Stmt{E: exprs(with(api.EAdd, with(api.ENeg, api.Expr{Args: none}), num(1)))})}}},
	} {
		wantBare(t, reflect.ValueOf(print.Bare(p)), reflect.ValueOf(p), map[string]int{})
	}
	if got := print.Bare(api.Prog{}); !reflect.DeepEqual(got, api.Prog{}) {
		t.Errorf("of the empty program: %#v", got)
	}
}

// P4.2: a program that is bare already is the same.
func TestP42BareTwice(t *testing.T) {
	once := print.Bare(fullProgram())
	if twice := print.Bare(once); !reflect.DeepEqual(twice, once) {
		t.Errorf("%#v\n%#v", twice, once)
	}
}

// spoilt changes all numbers and texts of a value, also within its lists, and puts things behind those, into their room.
func spoilt(v reflect.Value) {
	switch v.Kind() {
	case reflect.Int, reflect.Int64:
		v.SetInt(v.Int() + 1000)
	case reflect.String:
		v.SetString("spoilt")
	case reflect.Slice:
		for i := range v.Len() {
			spoilt(v.Index(i))
		}
		v.Set(reflect.Append(v, reflect.Zero(v.Type().Elem())))
	case reflect.Struct:
		for i := range v.NumField() {
			spoilt(v.Field(i))
		}
	}
}

// P4.2: to change the answer changes nothing in what was given, and the other way round.
func TestP42NewMemory(t *testing.T) {
	p := fullProgram()
	before := told(p)
	got := print.Bare(p)
	spoilt(reflect.ValueOf(&got).Elem())
	if told(p) != before {
		t.Errorf("to change the answer changed the program that was given")
	}
	got = print.Bare(p)
	want := told(got)
	spoilt(reflect.ValueOf(&p).Elem())
	if told(got) != want {
		t.Errorf("to change the program that was given changed the answer")
	}
}

// P4.2: lists of one answer share nothing, even if those that were given do.
func TestP42ListsApart(t *testing.T) {
	sum := exprs(with(api.EAdd, num(1), num(2)))
	s := api.Stmt{Op: api.SSet, Name: "x", E: sum}
	body := stmts(s, s, api.Stmt{Op: api.SIf, E: sum, Body: stmts(s), Else: stmts(s)})
	p := api.Prog{Funcs: []api.Func{{Name: "f", Params: params(2), Body: body}, {Name: "g", Params: params(2), Body: body}}}
	got, want := print.Bare(p), print.Bare(p)
	spoilt(reflect.ValueOf(&got.Funcs[0]).Elem())
	if !reflect.DeepEqual(got.Funcs[1], want.Funcs[1]) {
		t.Errorf("to change a function changed the other one: %#v", got.Funcs[1])
	}
	got = print.Bare(p)
	spoilt(reflect.ValueOf(&got.Funcs[1].Body[2].Body[0].E[0]).Elem())
	got.Funcs[1].Body[2].Body = nil
	want.Funcs[1].Body[2].Body = nil
	if !reflect.DeepEqual(got, want) {
		t.Errorf("to change an expression changed another one: %#v", got)
	}
}

// P1, P4.2: trees of the most nesting of which the document promises something.
func TestP42Deep(t *testing.T) {
	const deep = 1 << 16
	e, s := api.Expr{At: 1}, api.Stmt{At: 1}
	for range deep {
		e = api.Expr{Op: api.ENeg, At: 1, Args: exprs(e)}
		s = api.Stmt{Op: api.SIf, At: 1, Line: 1, End: 1, Else: stmts(s)}
	}
	s.E = exprs(e)
	s = print.Bare(api.Prog{Funcs: []api.Func{{Body: stmts(s)}}}).Funcs[0].Body[0]
	e = s.E[0]
	for i := range deep {
		if e.At != 0 || s.At != 0 || s.Line != 0 || s.End != 0 {
			t.Fatalf("a place is not 0, %d deep", i)
		}
		e, s = e.Args[0], s.Else[0]
	}
	if e.At != 0 || e.Args != nil || s.At != 0 || s.Else != nil {
		t.Errorf("%#v, %#v", e, s)
	}
}
