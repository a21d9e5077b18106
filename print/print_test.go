package print_test

import (
	"fmt"
	"math"
	"strings"
	"testing"

	"plover/api"
	"plover/parse"
	"plover/print"
)

// told writes a thing down, with all that is in it; lists that are empty, and none, look different.
func told(p any) string {
	return fmt.Sprintf("%#v", p)
}

func num(n int64) api.Expr {
	return api.Expr{Op: api.ENum, N: n}
}

func name(name string) api.Expr {
	return api.Expr{Op: api.EName, Name: name}
}

func with(op int, args ...api.Expr) api.Expr {
	return api.Expr{Op: op, Args: args}
}

// exprs are several expressions; without any an empty list that is not nil.
func exprs(all ...api.Expr) []api.Expr {
	return append([]api.Expr{}, all...)
}

// stmts are several statements; without any an empty list that is not nil.
func stmts(all ...api.Stmt) []api.Stmt {
	return append([]api.Stmt{}, all...)
}

// wantProgram fails unless the program's text is just these lines, each with its end.
func wantProgram(t *testing.T, p api.Prog, lines ...string) {
	t.Helper()
	before := told(p)
	want := ""
	for _, line := range lines {
		want += line + "\n"
	}
	if got := print.Print(p); got != want {
		t.Errorf("%+v:\n got %q\nwant %q", p, got, want)
	}
	if told(p) != before {
		t.Errorf("printing changed a program:\n%s\n%s", before, told(p))
	}
}

// wantStatements fails unless the statements have these lines, one tab deep, in a function.
func wantStatements(t *testing.T, body []api.Stmt, lines ...string) {
	t.Helper()
	all := []string{"fn f() {"}
	for _, line := range lines {
		all = append(all, "\t"+line)
	}
	wantProgram(t, api.Prog{Funcs: []api.Func{{Name: "f", Vector: -1, Body: body}}}, append(all, "}")...)
}

// parsed answers the program of a text, and fails if there is none.
func parsed(t *testing.T, text string) api.Prog {
	t.Helper()
	p, err := parse.Parse(text)
	if err != nil {
		t.Fatalf("%.500q: %v (%+v), want a program", text, err, err)
	}
	return p
}

// P4.1: the chapter's examples.
func TestP41Examples(t *testing.T) {
	for _, c := range []struct{ text, want string }{
		{"(a + b) * c", "(a + b) * c"},
		{"(a * b) + c", "a * b + c"},
		{"a - (b - c)", "a - (b - c)"},
		{"-(a + 1)", "-(a + 1)"},
		{"!(-x)", "!-x"},
		{"~w16(a < b)", "~w16(a < b)"},
	} {
		p := parsed(t, "fn f() { x = "+c.text+"; }")
		if got := print.Expr(p.Funcs[0].Body[0].E[0]); got != c.want {
			t.Errorf("%s is printed as %s, want %s", c.text, got, c.want)
		}
	}
	p := parsed(t, "fn f() { if (x) { sleep; } else { } }")
	wantStatements(t, p.Funcs[0].Body, "if (x) {", "\tsleep;", "}")
}

// P4.1: each kind of statement.
func TestP41Statements(t *testing.T) {
	a, b, c := name("a"), with(api.EAdd, name("b"), num(1)), with(api.EElem, num(2))
	c.Name = "c"
	for _, s := range []struct {
		s    api.Stmt
		want string
	}{
		{api.Stmt{Op: api.SVar, Name: "x", Type: api.W16, E: exprs(a)}, "var x: w16 = a;"},
		{api.Stmt{Op: api.SVar, Name: "y1", Type: api.W32, E: exprs(b)}, "var y1: w32 = b + 1;"},
		{api.Stmt{Op: api.SSet, Name: "x", E: exprs(b)}, "x = b + 1;"},
		{api.Stmt{Op: api.SCell, Name: "x", E: exprs(b, c)}, "x[b + 1] = c[2];"},
		{api.Stmt{Op: api.SField, Name: "x", Field: "p", E: exprs(a)}, "x.p = a;"},
		{api.Stmt{Op: api.SCall, Func: "g"}, "g();"},
		{api.Stmt{Op: api.SCall, Func: "g", E: exprs(a)}, "g(a);"},
		{api.Stmt{Op: api.SCall, Func: "g", E: exprs(a, b, c)}, "g(a, b + 1, c[2]);"},
		{api.Stmt{Op: api.SCall, Name: "x", Func: "g"}, "x = g();"},
		{api.Stmt{Op: api.SCall, Name: "x", Func: "g", E: exprs(b, a)}, "x = g(b + 1, a);"},
		{api.Stmt{Op: api.SIn, Name: "x", Reg: api.T0Count}, "in x = t0.count;"},
		{api.Stmt{Op: api.SOut, Reg: api.IrqClear, E: exprs(b)}, "out irq.clear = b + 1;"},
		{api.Stmt{Op: api.SSleep}, "sleep;"},
		{api.Stmt{Op: api.SHalt}, "halt;"},
		{api.Stmt{Op: api.SReturn}, "return;"},
		{api.Stmt{Op: api.SReturn, E: exprs(b)}, "return b + 1;"},
	} {
		wantStatements(t, stmts(s.s), s.want)
	}
}

// P4.1: statements with blocks: empty ones, and an Else without statements; the tabs ahead of each line.
func TestP41Blocks(t *testing.T) {
	a := exprs(with(api.ELt, name("a"), num(1)))
	sleep, halt := api.Stmt{Op: api.SSleep}, api.Stmt{Op: api.SHalt}
	wantStatements(t, nil)
	wantStatements(t, stmts())
	wantStatements(t, stmts(sleep, halt), "sleep;", "halt;")
	wantStatements(t, stmts(api.Stmt{Op: api.SIf, E: a}), "if (a < 1) {", "}")
	wantStatements(t, stmts(api.Stmt{Op: api.SIf, E: a, Body: stmts(), Else: stmts()}), "if (a < 1) {", "}")
	wantStatements(t, stmts(api.Stmt{Op: api.SIf, E: a, Body: stmts(sleep), Else: stmts()}), "if (a < 1) {", "\tsleep;", "}")
	wantStatements(t, stmts(api.Stmt{Op: api.SIf, E: a, Else: stmts(halt)}), "if (a < 1) {", "} else {", "\thalt;", "}")
	wantStatements(t, stmts(api.Stmt{Op: api.SIf, E: a, Body: stmts(sleep, sleep), Else: stmts(halt, sleep)}, halt),
		"if (a < 1) {", "\tsleep;", "\tsleep;", "} else {", "\thalt;", "\tsleep;", "}", "halt;")
	wantStatements(t, stmts(api.Stmt{Op: api.SWhile, E: a}), "while (a < 1) {", "}")
	wantStatements(t, stmts(api.Stmt{Op: api.SWhile, E: a, Body: stmts(sleep, halt)}, sleep), "while (a < 1) {", "\tsleep;", "\thalt;", "}", "sleep;")
	wantStatements(t, stmts(api.Stmt{Op: api.SCrit}), "critical {", "}")
	wantStatements(t, stmts(api.Stmt{Op: api.SCrit, Body: stmts(sleep)}, sleep), "critical {", "\tsleep;", "}", "sleep;")
	inner := api.Stmt{Op: api.SIf, E: a, Body: stmts(sleep), Else: stmts(api.Stmt{Op: api.SCrit, Body: stmts(halt)}, sleep)}
	wantStatements(t, stmts(api.Stmt{Op: api.SWhile, E: a, Body: stmts(inner, halt)}, sleep),
		"while (a < 1) {",
		"\tif (a < 1) {",
		"\t\tsleep;",
		"\t} else {",
		"\t\tcritical {",
		"\t\t\thalt;",
		"\t\t}",
		"\t\tsleep;",
		"\t}",
		"\thalt;",
		"}",
		"sleep;")
}

// registerTexts are the registers, as chapter 3 has them, with their numbers.
func registerTexts() map[int]string {
	return map[int]string{
		api.GpioOut: "gpio.out", api.GpioIn: "gpio.in", api.GpioEdge: "gpio.edge",
		api.UartData: "uart.data", api.UartStat: "uart.stat", api.UartCtl: "uart.ctl",
		api.T0Count: "t0.count", api.T0Comp: "t0.comp", api.T0Ctl: "t0.ctl",
		api.T1Count: "t1.count", api.T1Comp: "t1.comp", api.T1Ctl: "t1.ctl",
		api.IrqMask: "irq.mask", api.IrqPend: "irq.pend", api.IrqClear: "irq.clear",
		-1: "?", api.LastReg + 1: "?", math.MaxInt: "?", math.MinInt: "?",
	}
}

// P4.1: each register, and numbers that are none.
func TestP41Registers(t *testing.T) {
	for number, text := range registerTexts() {
		wantStatements(t, stmts(
			api.Stmt{Op: api.SIn, Name: "x", Reg: number},
			api.Stmt{Op: api.SOut, Reg: number, E: exprs(num(7))},
		), "in x = "+text+";", "out "+text+" = 7;")
	}
}

// P4.1: each type, and numbers that are none, wherever a type stands.
func TestP41Types(t *testing.T) {
	for number, text := range map[int]string{
		api.W16: "w16", api.W32: "w32",
		api.NoType: "?", api.Free: "?", -1: "?", 4: "?", math.MaxInt: "?", math.MinInt: "?",
	} {
		result := ": " + text
		if number == api.NoType {
			result = ""
		}
		fields := []api.Param{{Name: "p", Type: number}}
		wantProgram(t, api.Prog{
			Structs: []api.Struct{{Name: "S", Fields: fields}},
			Globals: []api.Global{{Name: "g", Type: number}, {Name: "h", Type: number, Count: 2}},
			Funcs: []api.Func{{Name: "f", Vector: -1, Params: fields, Result: number,
				Body: stmts(api.Stmt{Op: api.SVar, Name: "x", Type: number, E: exprs(num(0))})}},
		},
			"struct S {", "\tp: "+text+";", "}",
			"var g: "+text+";", "var h: "+text+"[2];",
			"",
			"fn f(p: "+text+")"+result+" {", "\tvar x: "+text+" = 0;", "}")
	}
}

// P4.1: statements of a kind that there is none of; they have no blocks.
func TestP41OtherStatements(t *testing.T) {
	for _, op := range []int{-1, api.LastStmt + 1, 1000, math.MaxInt, math.MinInt} {
		other := api.Stmt{Op: op, Name: "x", Field: "p", Func: "g", E: exprs(num(1)), Body: stmts(api.Stmt{Op: api.SHalt}), Else: stmts(api.Stmt{Op: api.SHalt})}
		wantStatements(t, stmts(other), "?;")
		wantStatements(t, stmts(api.Stmt{Op: api.SCrit, Body: stmts(other, api.Stmt{Op: api.SSleep})}, other), "critical {", "\t?;", "\tsleep;", "}", "?;")
	}
}

// P4.1: expressions that a statement lacks.
func TestP41LackingExpressions(t *testing.T) {
	one := exprs(name("i"))
	for _, s := range []struct {
		s    api.Stmt
		want []string
	}{
		{api.Stmt{Op: api.SVar, Name: "x", Type: api.W16}, []string{"var x: w16 = ?;"}},
		{api.Stmt{Op: api.SSet, Name: "x"}, []string{"x = ?;"}},
		{api.Stmt{Op: api.SSet, Name: "x", E: exprs()}, []string{"x = ?;"}},
		{api.Stmt{Op: api.SCell, Name: "x"}, []string{"x[?] = ?;"}},
		{api.Stmt{Op: api.SCell, Name: "x", E: one}, []string{"x[i] = ?;"}},
		{api.Stmt{Op: api.SField, Name: "x", Field: "p"}, []string{"x.p = ?;"}},
		{api.Stmt{Op: api.SOut, Reg: api.GpioOut}, []string{"out gpio.out = ?;"}},
		{api.Stmt{Op: api.SIf}, []string{"if (?) {", "}"}},
		{api.Stmt{Op: api.SWhile}, []string{"while (?) {", "}"}},
		{api.Stmt{Op: api.SReturn, E: exprs()}, []string{"return;"}},
		{api.Stmt{Op: api.SReturn, E: exprs(with(-1))}, []string{"return ?;"}},
		{api.Stmt{Op: api.SCall, Func: "g", E: exprs(with(-1), name("i"))}, []string{"g(?, i);"}},
	} {
		wantStatements(t, stmts(s.s), s.want...)
	}
}

// P4.1: the empty program.
func TestP41Empty(t *testing.T) {
	wantProgram(t, api.Prog{})
	wantProgram(t, api.Prog{Structs: []api.Struct{}, Globals: []api.Global{}, Funcs: []api.Func{}})
}

// P4.1: structs and globals; no empty line is among them, nor ahead.
func TestP41StructsAndGlobals(t *testing.T) {
	wantProgram(t, api.Prog{Structs: []api.Struct{{Name: "S"}}}, "struct S {", "}")
	wantProgram(t, api.Prog{
		Structs: []api.Struct{
			{Name: "S", Fields: []api.Param{{Name: "p", Type: api.W16}}},
			{Name: "T", Fields: []api.Param{{Name: "q", Type: api.W32}, {Name: "r", Type: api.W16}}},
		},
		Globals: []api.Global{
			{Name: "a", Type: api.W16},
			{Name: "b", Type: api.W32, Count: 64},
			{Name: "c", Struct: "T"},
			{Name: "d", Type: api.W32},
		},
	},
		"struct S {", "\tp: w16;", "}",
		"struct T {", "\tq: w32;", "\tr: w16;", "}",
		"var a: w16;", "var b: w32[64];", "var c: T;", "var d: w32;")
}

// P4.1: of a global the struct counts ahead of the number of elements, and that one, if it is not 0.
func TestP41Globals(t *testing.T) {
	for want, g := range map[string]api.Global{
		"var g: S;":                         {Name: "g", Struct: "S", Type: api.W16, Count: 3},
		"var g: T;":                         {Name: "g", Struct: "T", Type: api.W32},
		"var g: w16[-1];":                   {Name: "g", Type: api.W16, Count: -1},
		"var g: w32[1];":                    {Name: "g", Type: api.W32, Count: 1},
		"var g: ?[-9223372036854775808];":   {Name: "g", Type: 9, Count: math.MinInt},
		"var g: w16[9223372036854775807];":  {Name: "g", Type: api.W16, Count: math.MaxInt},
		"var : w16;":                        {Type: api.W16},
		"var g: ?;":                         {Name: "g"},
		"var Long_Name_16byte: Other_Name;": {Name: "Long_Name_16byte", Struct: "Other_Name"},
	} {
		wantProgram(t, api.Prog{Globals: []api.Global{g}}, want)
	}
}

// params are the first of six parameters.
func params(n int) []api.Param {
	return []api.Param{
		{Name: "a", Type: api.W16}, {Name: "b", Type: api.W32}, {Name: "c", Type: api.W16},
		{Name: "d", Type: api.W16}, {Name: "e", Type: api.W32}, {Name: "g", Type: api.W32},
	}[:n]
}

// P4.1: functions with no parameter up to six, with a result and without one; handlers.
func TestP41Functions(t *testing.T) {
	for want, f := range map[string]api.Func{
		"fn f() {":                    {Name: "f", Vector: -1},
		"fn f(a: w16) {":              {Name: "f", Vector: -1, Params: params(1)},
		"fn f(a: w16, b: w32) {":      {Name: "f", Vector: -1, Params: params(2)},
		"fn main(): w16 {":            {Name: "main", Vector: -1, Result: api.W16},
		"fn f(): w32 {":               {Name: "f", Vector: -1, Result: api.W32},
		"fn f(a: w16, b: w32): w32 {": {Name: "f", Vector: -1, Result: api.W32, Params: params(2)},
		"fn f(a: w16): ? {":           {Name: "f", Vector: -9, Result: -1, Params: params(1)},
		"fn f(): ? {":                 {Name: "f", Vector: math.MinInt, Result: api.Free, Prio: 3},
		"on 0 priority 1 {":           {Vector: 0, Prio: 1},
		"on 7 priority 7 {":           {Vector: 7, Prio: 7},
		"on 100 priority -3 {":        {Name: "f", Vector: 100, Prio: -3, Params: params(3), Result: api.W16},
		"on 9223372036854775807 priority -9223372036854775808 {": {Vector: math.MaxInt, Prio: math.MinInt},
		"fn f(a: w16, b: w32, c: w16, d: w16, e: w32, g: w32) {": {Name: "f", Vector: -1, Params: params(6)},
	} {
		wantProgram(t, api.Prog{Funcs: []api.Func{f}}, want, "}")
		f.Body = stmts(api.Stmt{Op: api.SHalt}, api.Stmt{Op: api.SReturn})
		wantProgram(t, api.Prog{Funcs: []api.Func{f}}, want, "\thalt;", "\treturn;", "}")
	}
	wantProgram(t, api.Prog{Funcs: []api.Func{{}}}, "on 0 priority 0 {", "}")
}

// P4.1: an empty line stands ahead of each function, if something stands ahead of it; nowhere else.
func TestP41EmptyLines(t *testing.T) {
	s := []api.Struct{{Name: "S", Fields: params(1)}}
	g := []api.Global{{Name: "g", Type: api.W16}}
	f := api.Func{Name: "f", Vector: -1}
	on := api.Func{Vector: 3, Prio: 4}
	wantProgram(t, api.Prog{Funcs: []api.Func{f, on, f}}, "fn f() {", "}", "", "on 3 priority 4 {", "}", "", "fn f() {", "}")
	wantProgram(t, api.Prog{Funcs: []api.Func{on, f}}, "on 3 priority 4 {", "}", "", "fn f() {", "}")
	wantProgram(t, api.Prog{Structs: s, Funcs: []api.Func{f}}, "struct S {", "\ta: w16;", "}", "", "fn f() {", "}")
	wantProgram(t, api.Prog{Globals: g, Funcs: []api.Func{on}}, "var g: w16;", "", "on 3 priority 4 {", "}")
	wantProgram(t, api.Prog{Structs: s, Globals: g, Funcs: []api.Func{f, on}},
		"struct S {", "\ta: w16;", "}", "var g: w16;", "", "fn f() {", "}", "", "on 3 priority 4 {", "}")
	wantProgram(t, api.Prog{Structs: append(s, s...), Globals: append(g, g...)},
		"struct S {", "\ta: w16;", "}", "struct S {", "\ta: w16;", "}", "var g: w16;", "var g: w16;")
}

// P1, P4.1: trees of the most nesting of which the document promises something, and long rows.
func TestP41Great(t *testing.T) {
	const deep = 1 << 16
	for _, c := range []struct {
		op         int
		begin, end string
	}{
		{api.ENeg, "-", ""}, {api.EParen, "(", ")"}, {api.EW16, "w16(", ")"}, {api.EElem, "[", "]"}, {api.EAdd, "", " + ?"},
	} {
		e := name("x")
		for range deep {
			e = with(c.op, e)
		}
		if got := print.Expr(e); got != strings.Repeat(c.begin, deep)+"x"+strings.Repeat(c.end, deep) {
			t.Errorf("of the kind %d, deep: %d bytes, %.20q", c.op, len(got), got)
		}
	}
	s := api.Stmt{Op: api.SHalt}
	for range 1000 {
		s = api.Stmt{Op: api.SCrit, Body: stmts(s)}
	}
	if got := print.Print(api.Prog{Funcs: []api.Func{{Name: "f", Vector: -1, Body: stmts(s)}}}); !strings.Contains(got, "\n"+strings.Repeat("\t", 1001)+"halt;\n"+strings.Repeat("\t", 1000)+"}\n") {
		t.Errorf("deep blocks: %d bytes", len(got))
	}
	all := make([]api.Expr, 100000)
	wantStatements(t, stmts(api.Stmt{Op: api.SCall, Func: "g", E: all}), "g("+strings.Repeat("0, ", len(all)-1)+"0);")
}
