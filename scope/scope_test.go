package scope_test

import (
	"errors"
	"fmt"
	"strings"
	"testing"

	"plover/api"
	"plover/parse"
	"plover/scope"
)

// told writes a thing down; lists that are empty, and none, look the same.
func told(p any) string {
	return fmt.Sprintf("%+v", p)
}

// parsed answers the program of a text, and fails if there is none.
func parsed(t *testing.T, text string) api.Prog {
	t.Helper()
	p, err := parse.Parse(text)
	if err != nil {
		t.Fatalf("%.800q: %v (%+v), want a program", text, err, err)
	}
	return p
}

// resolved answers what Resolve makes of a text, and fails if that is a fault, or if the program does not stay as it was.
func resolved(t *testing.T, text string) scope.Names {
	t.Helper()
	p := parsed(t, text)
	before := told(p)
	n, err := scope.Resolve(p)
	if err != nil {
		t.Fatalf("%.800q: %v (%+v), want no fault", text, err, err)
	}
	if told(p) != before {
		t.Errorf("%.800q: the program was\n%s\nand is\n%s", text, before, told(p))
	}
	return n
}

// wantFault fails unless the text's program has just that fault, beside zero names, and stays as it was.
func wantFault(t *testing.T, text string, code api.Errno, at int) {
	t.Helper()
	p := parsed(t, text)
	before := told(p)
	n, err := scope.Resolve(p)
	if told(p) != before {
		t.Errorf("%.800q: the program was\n%s\nand is\n%s", text, before, told(p))
	}
	if told(n) != told(scope.Names{}) {
		t.Errorf("%.800q: names beside an error: %.300s", text, told(n))
	}
	f, is := err.(*api.Fault)
	if !is || f == nil {
		t.Errorf("%.800q: %T %v, want a *api.Fault %v At %d", text, err, err, code, at)
		return
	}
	if f.Code != code || f.At != at {
		t.Errorf("%.800q: %v At %d, want %v At %d", text, f.Code, f.At, code, at)
	}
	if !errors.Is(err, code) {
		t.Errorf("%.800q: %v does not unwrap to %v", text, err, code)
	}
}

// wantMarked is wantFault, at the place of the ` in the text, which is taken out.
func wantMarked(t *testing.T, text string, code api.Errno) {
	t.Helper()
	ahead, behind, is := strings.Cut(text, "`")
	if !is {
		t.Fatalf("%q has no mark", text)
	}
	wantFault(t, ahead+behind, code, len(ahead))
}

// wantTold fails unless two things are the same when they are written down.
func wantTold(t *testing.T, about string, got, want any) {
	t.Helper()
	if told(got) != told(want) {
		t.Errorf("%.800s:\n got %.3000s\nwant %.3000s", about, told(got), told(want))
	}
}

func num(at int, n int64) api.Expr {
	return api.Expr{Op: api.ENum, At: at, N: n}
}

func with(op, at int, args ...api.Expr) api.Expr {
	return api.Expr{Op: op, At: at, Args: args}
}

func exprs(all ...api.Expr) []api.Expr {
	return all
}

// local is a local of that name, type and number.
func local(at int, name string, typ, number int) api.Expr {
	return api.Expr{Op: api.ELocal, At: at, Name: name, Type: typ, Ref: number}
}

// word is a global number.
func word(at int, name string, typ, address int) api.Expr {
	return api.Expr{Op: api.EWord, At: at, Name: name, Type: typ, Ref: address}
}

// field is a field of a global; its name is NAME.FIELD.
func field(at int, name string, typ, address int) api.Expr {
	name, field, _ := strings.Cut(name, ".")
	return api.Expr{Op: api.EWord, At: at, Name: name, Field: field, Type: typ, Ref: address}
}

// cell is an element of an array of so many.
func cell(at int, name string, typ, address int, many int64, index api.Expr) api.Expr {
	return api.Expr{Op: api.ECell, At: at, Name: name, Type: typ, Ref: address, N: many, Args: exprs(index)}
}

// words are words without addresses; they get these, one behind the other.
func words(all ...api.Word) []api.Word {
	address := 0
	for i := range all {
		all[i].Addr = address
		address += max(1, all[i].Count)
	}
	return all
}

// locals are the locals of a row of names and types: "x:w16 y:w32".
func locals(row string) []api.Local {
	var all []api.Local
	for _, one := range strings.Fields(row) {
		name, typ, _ := strings.Cut(one, ":")
		all = append(all, api.Local{Name: name, Type: map[string]int{"w16": api.W16, "w32": api.W32}[typ]})
	}
	return all
}

// P5.1: the chapter's examples.
func TestP51Examples(t *testing.T) {
	text := "var g: w16; var a: w32[3]; struct S { p: w16; q: w32; } var s: S; fn main() { }"
	n := resolved(t, text)
	wantTold(t, text, n.Words, []api.Word{
		{Name: "g", Type: api.W16, Addr: 0}, {Name: "a", Type: api.W32, Addr: 1, Count: 3},
		{Name: "s.p", Type: api.W16, Addr: 4}, {Name: "s.q", Type: api.W32, Addr: 5},
	})
	wantTold(t, text, n.Size, 6)

	text = "fn f(x: w16) { var y: w32 = x; y = 1; } fn main() { }"
	n = resolved(t, text)
	wantTold(t, text, n.Locals, [][]api.Local{locals("x:w16 y:w32"), nil})
	wantTold(t, text, n.Prog.Funcs[0].Body, []api.Stmt{
		{Op: api.SVar, At: 15, Line: 1, Name: "y", Type: api.W32, E: exprs(local(15, "y", api.W32, 1), local(28, "x", api.W16, 0))},
		{Op: api.SSet, At: 31, Line: 1, Name: "y", E: exprs(local(31, "y", api.W32, 1), num(35, 1))},
	})
	wantTold(t, text, n.Words, []api.Word(nil))
	wantTold(t, text, n.Size, 0)

	wantFault(t, "fn main() { var y: w16 = y; }", api.ErrName, 25)
	wantFault(t, "fn main() { if (1) { var y: w16 = 1; } y = 2; }", api.ErrName, 39)
	wantFault(t, "fn main() { critical { return; } }", api.ErrCrit, 23)
	wantFault(t, "fn f() { }", api.ErrMain, 0)
	wantFault(t, "fn f() { main(); } fn main() { }", api.ErrMain, 9)
}

// P5.1, and the document's fourth example: names of nothing, and functions that call themselves, which is no fault here.
func TestP51DocumentsExamples(t *testing.T) {
	wantFault(t, "fn main() { x = 1; }", api.ErrName, 12)
	text := "fn f() { f(); } fn main() { }"
	wantTold(t, text, resolved(t, text).Prog, parsed(t, text))
	text = "fn f() { g(); } fn g() { f(); } fn main() { }"
	wantTold(t, text, resolved(t, text).Prog, parsed(t, text))
}

// programAhead stands ahead of the statements of most tests: words n 0, m 1, a 2, s.p 5, s.q 6, b 7; the locals of g are v 0, w 1.
const programAhead = "struct S { p: w16; q: w32; } var n: w16; var m: w32; var a: w32[3]; var s: S; var b: w16[5]; " +
	"fn main() { } fn f(x: w16, y: w32): w16 { return 1; } fn g(v: w16, w: w32): w32 { "

// ahead is how many bytes stand ahead of these statements.
const ahead = len(programAhead)

// body answers the statements of g resolved.
func body(t *testing.T, text string) []api.Stmt {
	t.Helper()
	n := resolved(t, programAhead+text+" }")
	wantTold(t, text, n.Words, words(
		api.Word{Name: "n", Type: api.W16}, api.Word{Name: "m", Type: api.W32}, api.Word{Name: "a", Type: api.W32, Count: 3},
		api.Word{Name: "s.p", Type: api.W16}, api.Word{Name: "s.q", Type: api.W32}, api.Word{Name: "b", Type: api.W16, Count: 5},
	))
	wantTold(t, text, n.Size, 12)
	return n.Prog.Funcs[2].Body
}

// moved adds that many bytes to all places of expressions.
func moved(all []api.Expr, by int) []api.Expr {
	var anew []api.Expr
	for _, e := range all {
		e.At += by
		e.Args = moved(e.Args, by)
		anew = append(anew, e)
	}
	return anew
}

// movedStatements adds that many bytes to all places of statements.
func movedStatements(all []api.Stmt, by int) []api.Stmt {
	var anew []api.Stmt
	for _, s := range all {
		s.At += by
		s.E = moved(s.E, by)
		s.Body, s.Else = movedStatements(s.Body, by), movedStatements(s.Else, by)
		anew = append(anew, s)
	}
	return anew
}

// statementRows are statements, each with what it is resolved; places are told from the statement's own beginning.
func statementRows() map[string]api.Stmt {
	n, m, v, w := word(0, "n", api.W16, 0), word(0, "m", api.W32, 1), local(0, "v", api.W16, 0), local(0, "w", api.W32, 1)
	at := func(e api.Expr, at int) api.Expr {
		e.At = at
		return e
	}
	return map[string]api.Stmt{
		"n = 5;":                        {Op: api.SSet, Name: "n", E: exprs(n, num(4, 5))},
		"n = n;":                        {Op: api.SSet, Name: "n", E: exprs(n, at(n, 4))},
		"m = v;":                        {Op: api.SSet, Name: "m", E: exprs(m, at(v, 4))},
		"v = m;":                        {Op: api.SSet, Name: "v", E: exprs(v, at(m, 4))},
		"w = w + v;":                    {Op: api.SSet, Name: "w", E: exprs(w, with(api.EAdd, 6, at(w, 4), at(v, 8)))},
		"n = a[2];":                     {Op: api.SSet, Name: "n", E: exprs(n, cell(4, "a", api.W32, 2, 3, num(6, 2)))},
		"n = b[v];":                     {Op: api.SSet, Name: "n", E: exprs(n, cell(4, "b", api.W16, 7, 5, at(v, 6)))},
		"n = b[a[m]];":                  {Op: api.SSet, Name: "n", E: exprs(n, cell(4, "b", api.W16, 7, 5, cell(6, "a", api.W32, 2, 3, at(m, 8))))},
		"n = s.p;":                      {Op: api.SSet, Name: "n", E: exprs(n, field(4, "s.p", api.W16, 5))},
		"n = s.q;":                      {Op: api.SSet, Name: "n", E: exprs(n, field(4, "s.q", api.W32, 6))},
		"n = -v;":                       {Op: api.SSet, Name: "n", E: exprs(n, with(api.ENeg, 4, at(v, 5)))},
		"n = ~m;":                       {Op: api.SSet, Name: "n", E: exprs(n, with(api.ENot, 4, at(m, 5)))},
		"n = !s.q;":                     {Op: api.SSet, Name: "n", E: exprs(n, with(api.EZero, 4, field(5, "s.q", api.W32, 6)))},
		"n = w16(w);":                   {Op: api.SSet, Name: "n", E: exprs(n, with(api.EW16, 4, at(w, 8)))},
		"m = w32(n);":                   {Op: api.SSet, Name: "m", E: exprs(m, with(api.EW32, 4, at(n, 8)))},
		"n = (m);":                      {Op: api.SSet, Name: "n", E: exprs(n, at(m, 5))},
		"n = v * w - n << m;":           {Op: api.SSet, Name: "n", E: exprs(n, with(api.EShl, 14, with(api.ESub, 10, with(api.EMul, 6, at(v, 4), at(w, 8)), at(n, 12)), at(m, 17)))},
		"a[1] = 3;":                     {Op: api.SCell, Name: "a", E: exprs(cell(0, "a", api.W32, 2, 3, num(2, 1)), num(7, 3))},
		"b[v + 1] = w;":                 {Op: api.SCell, Name: "b", E: exprs(cell(0, "b", api.W16, 7, 5, with(api.EAdd, 4, at(v, 2), num(6, 1))), at(w, 11))},
		"a[b[n]] = a[m];":               {Op: api.SCell, Name: "a", E: exprs(cell(0, "a", api.W32, 2, 3, cell(2, "b", api.W16, 7, 5, at(n, 4))), cell(10, "a", api.W32, 2, 3, at(m, 12)))},
		"s.p = 3;":                      {Op: api.SField, Name: "s", Field: "p", E: exprs(field(0, "s.p", api.W16, 5), num(6, 3))},
		"s.q = s.p;":                    {Op: api.SField, Name: "s", Field: "q", E: exprs(field(0, "s.q", api.W32, 6), field(6, "s.p", api.W16, 5))},
		"f();":                          {Op: api.SCall, Func: "f"},
		"f(n);":                         {Op: api.SCall, Func: "f", E: exprs(at(n, 2))},
		"g(v, a[w], s.q);":              {Op: api.SCall, Func: "g", E: exprs(at(v, 2), cell(5, "a", api.W32, 2, 3, at(w, 7)), field(11, "s.q", api.W32, 6))},
		"n = f();":                      {Op: api.SCall, Name: "n", Func: "f", E: exprs(n)},
		"v = g(v, w);":                  {Op: api.SCall, Name: "v", Func: "g", E: exprs(v, at(v, 6), at(w, 9))},
		"m = f(1);":                     {Op: api.SCall, Name: "m", Func: "f", E: exprs(m, num(6, 1))},
		"in n = gpio.in;":               {Op: api.SIn, Name: "n", Reg: api.GpioIn, E: exprs(n)},
		"in w = t1.count;":              {Op: api.SIn, Name: "w", Reg: api.T1Count, E: exprs(w)},
		"out irq.clear = v;":            {Op: api.SOut, Reg: api.IrqClear, E: exprs(at(v, 16))},
		"out gpio.out = s.p;":           {Op: api.SOut, Reg: api.GpioOut, E: exprs(field(15, "s.p", api.W16, 5))},
		"if (v) { }":                    {Op: api.SIf, End: 1, E: exprs(at(v, 4))},
		"while (a[n] < 3) { }":          {Op: api.SWhile, End: 1, E: exprs(with(api.ELt, 12, cell(7, "a", api.W32, 2, 3, at(n, 9)), num(14, 3)))},
		"critical { }":                  {Op: api.SCrit, End: 1},
		"sleep;":                        {Op: api.SSleep},
		"halt;":                         {Op: api.SHalt},
		"return;":                       {Op: api.SReturn},
		"return w;":                     {Op: api.SReturn, E: exprs(at(w, 7))},
		"return s.q & a[0];":            {Op: api.SReturn, E: exprs(with(api.EAnd, 11, field(7, "s.q", api.W32, 6), cell(13, "a", api.W32, 2, 3, num(15, 0))))},
		"var x: w16 = 5;":               {Op: api.SVar, Name: "x", Type: api.W16, E: exprs(local(0, "x", api.W16, 2), num(13, 5))},
		"var y: w32 = v;":               {Op: api.SVar, Name: "y", Type: api.W32, E: exprs(local(0, "y", api.W32, 2), at(v, 13))},
		"var x: w32 = b[s.p];":          {Op: api.SVar, Name: "x", Type: api.W32, E: exprs(local(0, "x", api.W32, 2), cell(13, "b", api.W16, 7, 5, field(15, "s.p", api.W16, 5)))},
		"var p: w16 = n;":               {Op: api.SVar, Name: "p", Type: api.W16, E: exprs(local(0, "p", api.W16, 2), at(n, 13))},
		"if (1) { n = v; }":             {Op: api.SIf, End: 1, E: exprs(num(4, 1)), Body: []api.Stmt{{Op: api.SSet, At: 9, Line: 1, Name: "n", E: exprs(at(n, 9), at(v, 13))}}},
		"while (n) { in w = gpio.in; }": {Op: api.SWhile, End: 1, E: exprs(at(n, 7)), Body: []api.Stmt{{Op: api.SIn, At: 12, Line: 1, Name: "w", Reg: api.GpioIn, E: exprs(at(w, 12))}}},
		"critical { a[0] = m; sleep; }": {Op: api.SCrit, End: 1, Body: []api.Stmt{{Op: api.SCell, At: 11, Line: 1, Name: "a", E: exprs(cell(11, "a", api.W32, 2, 3, num(13, 0)), at(m, 18))}, {Op: api.SSleep, At: 21, Line: 1}}},
		"if (m) { } else { v = 1; }":    {Op: api.SIf, End: 1, E: exprs(at(m, 4)), Else: []api.Stmt{{Op: api.SSet, At: 18, Line: 1, Name: "v", E: exprs(at(v, 18), num(22, 1))}}},
	}
}

// P5.1: each kind of statement, of target, and of expression: alone, behind others, and within others.
func TestP51Statements(t *testing.T) {
	for text, want := range statementRows() {
		want.Line = 1
		all := []api.Stmt{want}
		wantTold(t, text, body(t, text), movedStatements(all, ahead))
		got := body(t, "n = v; sleep; "+text+" halt;")
		wantTold(t, text+" behind others", got[2:3], movedStatements(all, ahead+14))
		got = body(t, "if (1) { "+text+" }")
		wantTold(t, text+" within if", got[0].Body, movedStatements(all, ahead+9))
		got = body(t, "if (1) { } else { "+text+" }")
		wantTold(t, text+" within else", got[0].Else, movedStatements(all, ahead+18))
		got = body(t, "while (1) { while (v) { "+text+" } }")
		wantTold(t, text+" within two whiles", got[0].Body[0].Body, movedStatements(all, ahead+24))
		if want.Op != api.SReturn {
			got = body(t, "critical { "+text+" }")
			wantTold(t, text+" within critical", got[0].Body, movedStatements(all, ahead+11))
		}
	}
}

// P5.1: of each operator both sides.
func TestP51Operators(t *testing.T) {
	marks := []string{
		api.EMul: "*", api.EDiv: "/", api.ERem: "%", api.EAdd: "+", api.ESub: "-", api.EShl: "<<", api.EShr: ">>", api.ELt: "<", api.ELe: "<=",
		api.EGt: ">", api.EGe: ">=", api.EEq: "==", api.ENe: "!=", api.EAnd: "&", api.EXor: "^", api.EOr: "|",
	}
	for op := api.EMul; op <= api.EOr; op++ {
		text := "n = v " + marks[op] + " m;"
		right := 7 + len(marks[op])
		sum := with(op, 6, local(4, "v", api.W16, 0), word(right, "m", api.W32, 1))
		want := []api.Stmt{{Op: api.SSet, Line: 1, Name: "n", E: exprs(word(0, "n", api.W16, 0), sum)}}
		wantTold(t, text, body(t, text), movedStatements(want, ahead))
	}
}

// P5.1: words of numbers, arrays and structs, one behind the other, in order; structs may stand behind.
func TestP51Words(t *testing.T) {
	text := "var z: w32; var t: T; var a: w16[64]; fn main() { a[1] = u.y; h[2] = t.k; b = u.k; } var u: U; var b: w16; var t2: T; " +
		"struct U { y: w16; k: w32; x: w16; } var h: w32[1]; struct T { k: w32; } var c: w32;"
	n := resolved(t, text)
	wantTold(t, text, n.Words, []api.Word{
		{Name: "z", Type: api.W32, Addr: 0}, {Name: "t.k", Type: api.W32, Addr: 1}, {Name: "a", Type: api.W16, Addr: 2, Count: 64},
		{Name: "u.y", Type: api.W16, Addr: 66}, {Name: "u.k", Type: api.W32, Addr: 67}, {Name: "u.x", Type: api.W16, Addr: 68},
		{Name: "b", Type: api.W16, Addr: 69}, {Name: "t2.k", Type: api.W32, Addr: 70}, {Name: "h", Type: api.W32, Addr: 71, Count: 1},
		{Name: "c", Type: api.W32, Addr: 72},
	})
	wantTold(t, text, n.Size, 73)
	want := parsed(t, text)
	wantTold(t, text, n.Prog.Structs, want.Structs)
	wantTold(t, text, n.Prog.Globals, want.Globals)
	var got []int
	for _, s := range n.Prog.Funcs[0].Body {
		got = append(got, s.E[0].Ref, int(s.E[0].N), s.E[1].Ref, s.E[1].Type)
	}
	wantTold(t, text, got, []int{2, 64, 66, api.W16, 71, 1, 1, api.W32, 69, 0, 67, api.W32})
}

// P5.1: each kind of global behind each.
func TestP51WordsOfTwo(t *testing.T) {
	kinds := map[string][]api.Word{
		"w16":     {{Name: "#", Type: api.W16}},
		"w32":     {{Name: "#", Type: api.W32}},
		"w16[1]":  {{Name: "#", Type: api.W16, Count: 1}},
		"w32[64]": {{Name: "#", Type: api.W32, Count: 64}},
		"S":       {{Name: "#.f", Type: api.W32}},
		"T":       {{Name: "#.g", Type: api.W16}, {Name: "#.f", Type: api.W16}, {Name: "#.T", Type: api.W32}},
	}
	for first, ones := range kinds {
		for second, others := range kinds {
			text := "struct S { f: w32; } var x: " + first + "; struct T { g: w16; f: w16; T: w32; } fn main() { } var y1: " + second + ";"
			var all []api.Word
			for _, w := range ones {
				w.Name = strings.Replace(w.Name, "#", "x", 1)
				all = append(all, w)
			}
			for _, w := range others {
				w.Name = strings.Replace(w.Name, "#", "y1", 1)
				all = append(all, w)
			}
			n := resolved(t, text)
			wantTold(t, text, n.Words, words(all...))
			size := 0
			for _, w := range all {
				size += max(1, w.Count)
			}
			wantTold(t, text, n.Size, size)
		}
	}
}

// numbersOf tells the locals of statements: of each its name, its number, and 0 for w16, 1 for w32.
func numbersOf(body []api.Stmt) string {
	all := ""
	for _, r := range referencesOf(body) {
		all += fmt.Sprintf("%s%d%d ", r.Name, r.Ref, r.Type-api.W16)
	}
	return all
}

// P5.1: locals are numbered in order of the text: parameters, then all vars, also those of inner blocks; each function's from 0 on.
func TestP51Locals(t *testing.T) {
	text := "fn f(b: w32, a: w16) { var c: w16 = 1; if (c) { var d: w32 = a; while (d) { var e: w16 = d; d = e; } var g: w16 = d; g = b; } " +
		"else { var h: w16 = c; h = h; critical { var i: w32 = h; i = a; } } var j: w16 = a; j = c; } " +
		"on 3 priority 1 { var a: w16 = 1; { } }"
	text = strings.Replace(text, "{ }", "a = 2;", 1) + " fn main() { var c: w32 = 1; c = c; } fn k(): w32 { return 1; } fn l(z: w16) { z = z; }"
	n := resolved(t, text)
	wantTold(t, text, n.Locals, [][]api.Local{
		locals("b:w32 a:w16 c:w16 d:w32 e:w16 g:w16 h:w16 i:w32 j:w16"), locals("a:w16"), locals("c:w32"), nil, locals("z:w16"),
	})
	got := ""
	for _, f := range n.Prog.Funcs {
		got += numbersOf(f.Body)
	}
	wantTold(t, text, got, "c20 c20 a10 d31 d31 d31 e40 d31 e40 d31 g50 g50 b01 c20 h60 h60 h60 h60 i71 i71 a10 a10 j80 j80 c20 a00 a00 c01 c01 c01 z00 z00 ")
}

// P5.1: the same name in blocks one behind the other, in functions, and in both blocks of an if: each is another local.
func TestP51SameNames(t *testing.T) {
	text := "fn f(y: w32) { if (1) { var x: w16 = 1; x = 2; } else { var x: w32 = 3; x = 4; } while (1) { var x: w16 = 5; x = 6; } " +
		"critical { critical { var x: w32 = 7; x = 8; } var x: w16 = 9; x = y; } var x: w32 = 11; x = 12; } fn g(x: w16, p: w16) { x = p; } fn main() { var y: w16 = 1; y = y; }"
	n := resolved(t, text)
	wantTold(t, text, n.Locals, [][]api.Local{locals("y:w32 x:w16 x:w32 x:w16 x:w32 x:w16 x:w32"), locals("x:w16 p:w16"), locals("y:w16")})
	wantTold(t, text, numbersOf(n.Prog.Funcs[0].Body), "x10 x10 x21 x21 x30 x30 x41 x41 x50 x50 y01 x61 x61 ")
	// A name of a function, of a struct and of a struct's field that is not in scope, or no name of the program's, hinders none.
	resolved(t, "struct S { x: w16; y: w16; S: w32; main: w16; f: w32; } var s: S; fn f(x: w16, y: w16) { var p: w16 = s.x; p = s.f; } fn main() { var x: w16 = s.main; x = s.S; }")
	resolved(t, "struct S { x: w16; } struct T { x: w16; S: w16; } var s: S; var t: T; fn main() { t.S = s.x; t.x = 1; }")
}
