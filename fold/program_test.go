package fold_test

import (
	"reflect"
	"testing"

	"plover/api"
	"plover/fold"
	"plover/print"
)

// wholeText is a program with all kinds of statements, and numbers alone in each place where an expression may stand, in blocks within blocks, too.
const wholeText = "struct S { p: w16; q: w32; } var n: w16; var a: w32[8]; var s: S; struct T { p: w16; } " +
	"fn f(x: w16, y: w32): w16 { var z: w16 = 2 * 3; if (1 + 1) { var i: w32 = 3 - 1; i = 4 * 4; } else { while (2 - 2) { z = f(5 + 5, 6 + 6); f(!1, 1 << 3); } } a[7 - 1] = 8 / 2; s.p = ~1; s.q = 9 % 5; return 3 | 4; } " +
	"on 1 priority 2 { critical { in n = gpio.in; while (!0) { out gpio.out = 5 ^ 1; critical { if (1 < 2) { n = -(-5); } else { n = 1 / 0; } } sleep; } } return; } fn main() { var x: w16 = 65535 + 2; f(x + 1 * 1, 4000000000); halt; }"

// wholeFolded is the same, folded.
const wholeFolded = "struct S { p: w16; q: w32; } var n: w16; var a: w32[8]; var s: S; struct T { p: w16; } " +
	"fn f(x: w16, y: w32): w16 { var z: w16 = 6; if (2) { var i: w32 = 2; i = 16; } else { while (0) { z = f(10, 12); f(0, 8); } } a[6] = 4; s.p = -2; s.q = 4; return 7; } " +
	"on 1 priority 2 { critical { in n = gpio.in; while (1) { out gpio.out = 4; critical { if (1) { n = 5; } else { n = 1 / 0; } } sleep; } } return; } fn main() { var x: w16 = 1; f(x + 1, -294967296); halt; }"

// printed writes a program as a text, without targets, which scope puts ahead.
func printed(p api.Prog) string {
	return print.Print(withoutTargets(p))
}

func withoutTargets(p api.Prog) api.Prog {
	var funcs []api.Func
	for _, f := range p.Funcs {
		f.Body = untargeted(f.Body)
		funcs = append(funcs, f)
	}
	p.Funcs = funcs
	return p
}

func untargeted(body []api.Stmt) []api.Stmt {
	var all []api.Stmt
	for _, s := range body {
		var es []api.Expr
		for _, e := range s.E {
			es = append(es, named(e))
		}
		switch {
		case s.Op == api.SCell:
			es[0] = es[0].Args[0]
		case s.Op == api.SVar, s.Op == api.SSet, s.Op == api.SField, s.Op == api.SIn, s.Op == api.SCall && s.Name != "":
			es = es[1:]
		}
		s.E, s.Body, s.Else = es, untargeted(s.Body), untargeted(s.Else)
		all = append(all, s)
	}
	return all
}

// named gives what was resolved its name again.
func named(e api.Expr) api.Expr {
	kinds := map[int]int{api.ELocal: api.EName, api.EWord: api.EName, api.ECell: api.EElem}
	if kind, is := kinds[e.Op]; is {
		e.Op = kind
	}
	var args []api.Expr
	for _, arg := range e.Args {
		args = append(args, named(arg))
	}
	e.Args = args
	return e
}

// P7.2: expressions of all statements, also within blocks, are folded.
func TestP72Prog(t *testing.T) {
	p := checked(t, wholeText)
	before := told(p)
	got := fold.Prog(p)
	wantTold(t, "what was handed in", told(p), before)
	want := checked(t, wholeText)
	foldedAll(reflect.ValueOf(&want).Elem())
	wantTold(t, "the whole program", got, want)
	if folded, text := printed(got), printed(checked(t, wholeText)); folded == text || folded != printed(ofFoldedText(t)) {
		t.Errorf("got\n%s\nwant\n%s", folded, printed(ofFoldedText(t)))
	}
	wantTold(t, "folded again", fold.Prog(got), got)
}

// ofFoldedText is the program of the folded text, in which numbers below 0 are operators yet: these are folded, too.
func ofFoldedText(t *testing.T) api.Prog {
	p := checked(t, wholeFolded)
	foldedAll(reflect.ValueOf(&p).Elem())
	return p
}

// foldedAll puts in place of each expression of a value, also within its lists, what it is when it is folded by the tests' own reckoning; each stands in a list of its own.
func foldedAll(v reflect.Value) {
	switch v.Kind() {
	case reflect.Slice:
		for i := range v.Len() {
			foldedAll(v.Index(i))
		}
	case reflect.Struct:
		if e, is := v.Interface().(api.Expr); is {
			v.Set(reflect.ValueOf(reckonedFold(e)))
			return
		}
		for i := range v.NumField() {
			foldedAll(v.Field(i))
		}
	}
}

// P7.2: one statement of each kind, and of kinds that there are not, alone, and in both blocks of each kind, whichever that is.
func TestP72EveryStatement(t *testing.T) {
	sum := with(api.EAdd, api.W16, 3, num(api.W16, 1, 4), num(api.W16, 5, 5))
	cell := api.Expr{Op: api.ECell, At: 6, Name: "a", Type: api.W16, Ref: 2, N: 70000, Args: []api.Expr{sum}}
	nine := num(api.W16, 3, 9)
	cellOfNine := cell
	cellOfNine.Args = []api.Expr{nine}
	for kind := -1; kind <= api.LastStmt+1; kind++ {
		inner := api.Stmt{Op: kind, At: 4, Line: 5, Name: "x", Field: "p", Func: "f", Reg: 6, Type: 7, End: 8, E: []api.Expr{cell, sum, nine, sum}}
		want := inner
		want.E = []api.Expr{cellOfNine, nine, nine, nine}
		wantStatement(t, inner, want)
		for outer := -1; outer <= api.LastStmt+1; outer++ {
			s := api.Stmt{Op: outer, At: 1, E: []api.Expr{sum}, Body: []api.Stmt{{Op: api.SSleep}, inner}, Else: []api.Stmt{inner, inner}}
			folded := api.Stmt{Op: outer, At: 1, E: []api.Expr{nine}, Body: []api.Stmt{{Op: api.SSleep}, want}, Else: []api.Stmt{want, want}}
			wantStatement(t, s, folded)
			wantStatement(t, api.Stmt{Op: outer, Else: []api.Stmt{s}}, api.Stmt{Op: outer, Else: []api.Stmt{folded}})
		}
	}
}

// wantStatement fails unless a statement of a function, and of a handler, is folded to that one.
func wantStatement(t *testing.T, s, want api.Stmt) {
	t.Helper()
	p := api.Prog{Funcs: []api.Func{{Name: "f", Vector: -1, Body: []api.Stmt{s}}, {Vector: 3, Prio: 2, Body: []api.Stmt{s, s}}}}
	folded := api.Prog{Funcs: []api.Func{{Name: "f", Vector: -1, Body: []api.Stmt{want}}, {Vector: 3, Prio: 2, Body: []api.Stmt{want, want}}}}
	before := told(p)
	got := fold.Prog(p)
	wantTold(t, before, got, folded)
	wantTold(t, "what was handed in", told(p), before)
}

// P7.2: all but expressions stays, whatever it is; expressions are folded by the tests' own reckoning.
func TestP72AnyProgs(t *testing.T) {
	many := 0
	for seed := range 400 {
		o := &odd{dice: dice(seed)}
		var p, want api.Prog
		o.fill(reflect.ValueOf(&p).Elem(), 6)
		o = &odd{dice: dice(seed)}
		o.fill(reflect.ValueOf(&want).Elem(), 6)
		before := told(p)
		foldedAll(reflect.ValueOf(&want).Elem())
		got := fold.Prog(p)
		wantTold(t, "folded", got, want)
		wantTold(t, "what was handed in", told(p), before)
		wantTold(t, "folded again", fold.Prog(got), got)
		if told(got) != before {
			many++
		}
		if t.Failed() {
			return
		}
	}
	if many < 150 {
		t.Errorf("only %d were changed", many)
	}
}

// P7.2: of nothing, nothing; lists that are empty are as those that are nil.
func TestP72EmptyLists(t *testing.T) {
	wantTold(t, "nothing", fold.Prog(api.Prog{}), api.Prog{})
	wantTold(t, "no expression", fold.Fold(api.Expr{}), api.Expr{})
	wantTold(t, "empty lists", fold.Prog(api.Prog{Structs: []api.Struct{}, Globals: []api.Global{}, Funcs: []api.Func{}}), api.Prog{})
	p := api.Prog{Structs: []api.Struct{{Fields: []api.Param{}}}, Funcs: []api.Func{{Params: []api.Param{}, Body: []api.Stmt{{E: []api.Expr{}, Body: []api.Stmt{}, Else: []api.Stmt{}}}}, {Body: []api.Stmt{}}}}
	wantTold(t, "empty lists within", fold.Prog(p), api.Prog{Structs: []api.Struct{{}}, Funcs: []api.Func{{Body: []api.Stmt{{}}}, {}}})
	e := num(api.W16, 3, 40000)
	e.Args = []api.Expr{}
	wantFold(t, e, num(api.W16, 3, -25536))
	wantFold(t, with(api.ENeg, api.W16, 2, e), num(api.W16, 2, 25536))
}
