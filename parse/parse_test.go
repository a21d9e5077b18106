package parse_test

import (
	"errors"
	"fmt"
	"strings"
	"testing"

	"plover/api"
	"plover/parse"
)

// told writes a program down; lists that are empty, and none, look the same.
func told(p any) string {
	return fmt.Sprintf("%+v", p)
}

// parsed answers the program of a text, and fails if there is none.
func parsed(t *testing.T, text string) api.Prog {
	t.Helper()
	p, err := parse.Parse(text)
	if err != nil {
		t.Fatalf("%.300q: %v (%+v), want a program", text, err, err)
	}
	return p
}

// wantProg fails unless the text has just that program.
func wantProg(t *testing.T, text string, want api.Prog) {
	t.Helper()
	if got := parsed(t, text); told(got) != told(want) {
		t.Errorf("%.300q:\n got %.3000s\nwant %.3000s", text, told(got), told(want))
	}
}

// wantFault fails unless the text has no program, but that fault.
func wantFault(t *testing.T, text string, code api.Errno, at int) {
	t.Helper()
	got, err := parse.Parse(text)
	if told(got) != told(api.Prog{}) {
		t.Errorf("%.300q: a program beside an error: %.300s", text, told(got))
	}
	f, is := err.(*api.Fault)
	if !is || f == nil {
		t.Errorf("%.300q: %T %v, want a *api.Fault %v At %d", text, err, err, code, at)
		return
	}
	if f.Code != code || f.At != at {
		t.Errorf("%.300q: %v At %d, want %v At %d", text, f.Code, f.At, code, at)
	}
	if !errors.Is(err, code) {
		t.Errorf("%.300q: %v does not unwrap to %v", text, err, code)
	}
}

// wantMarked is wantFault, at the place of the ` in the text, which is taken out.
func wantMarked(t *testing.T, text string, code api.Errno) {
	t.Helper()
	ahead, behind, is := strings.Cut(text, "`")
	if !is {
		t.Fatalf("%q has no mark", text)
	}
	wantFault(t, ahead+behind, code, len(ahead))
}

// body answers the statements of a program that is one function f, from its brace on.
func body(t *testing.T, text string) []api.Stmt {
	t.Helper()
	p := parsed(t, "fn f() {"+text+"}")
	if len(p.Structs) != 0 || len(p.Globals) != 0 || len(p.Funcs) != 1 {
		t.Fatalf("%q: not one function: %s", text, told(p))
	}
	return p.Funcs[0].Body
}

// ahead is how many bytes stand in body ahead of its text.
const ahead = len("fn f() {")

func num(at int, n int64) api.Expr {
	return api.Expr{Op: api.ENum, At: at, N: n}
}

func name(at int, name string) api.Expr {
	return api.Expr{Op: api.EName, At: at, Name: name}
}

func with(op, at int, args ...api.Expr) api.Expr {
	return api.Expr{Op: op, At: at, Args: args}
}

// P3.1: the chapter's examples.
func TestP31Examples(t *testing.T) {
	sum := with(api.EAdd, 18, num(16, 1), with(api.EMul, 22, num(20, 2), name(24, "y")))
	set := api.Stmt{Op: api.SSet, At: 12, Line: 1, Name: "x", E: []api.Expr{sum}}
	wantProg(t, "fn main() { x = 1 + 2 * y; }", api.Prog{Funcs: []api.Func{
		{Name: "main", At: 0, Line: 1, End: 1, Vector: -1, Body: []api.Stmt{set}},
	}})
	wantFault(t, "on 3 priority 9 { }", api.ErrRange, 14)
	wantFault(t, "fn f() { out gpio.stat = 1; }", api.ErrReg, 13)
	wantFault(t, "var a: w16[0];", api.ErrRange, 11)
	wantFault(t, "fn f( { }", api.ErrToken, 6)
	call := api.Stmt{Op: api.SCall, At: 9, Line: 1, Name: "x", Func: "g", E: []api.Expr{num(15, 1)}}
	set = api.Stmt{Op: api.SSet, At: 19, Line: 1, Name: "y", E: []api.Expr{name(24, "g")}}
	wantProg(t, "fn f() { x = g(1); y = (g); }", api.Prog{Funcs: []api.Func{
		{Name: "f", At: 0, Line: 1, End: 1, Vector: -1, Body: []api.Stmt{call, set}},
	}})
}

// P3.1: a text without tokens has the empty program.
func TestP31Empty(t *testing.T) {
	for _, text := range []string{"", " ", "\n\n", "// nothing", "\t//\n"} {
		wantProg(t, text, api.Prog{})
	}
}

// P3.1: each kind of part, over several lines, in any order.
func TestP31Parts(t *testing.T) {
	lines := []string{
		"var a: w16;",                 // 0
		"struct S {",                  // 12
		" p: w16; q",                  // 23
		": w32; }",                    // 34
		"on 7 priority 1 {",           // 43
		"} var b: w32[64]; var c:",    // 61
		"S ; fn f",                    // 86
		"(x: w16, y: w32",             // 95
		"): w32 {",                    // 111
		"",                            // 120
		"} struct T { p: w32; }",      // 121
		"fn g() { } on 0 priority 7{", // 144
		"}",                           // 172
	}
	wantProg(t, strings.Join(lines, "\n"), api.Prog{
		Structs: []api.Struct{
			{Name: "S", At: 19, Fields: []api.Param{{Name: "p", Type: api.W16, At: 24}, {Name: "q", Type: api.W32, At: 32}}},
			{Name: "T", At: 130, Fields: []api.Param{{Name: "p", Type: api.W32, At: 134}}},
		},
		Globals: []api.Global{
			{Name: "a", At: 4, Type: api.W16},
			{Name: "b", At: 67, Type: api.W32, Count: 64},
			{Name: "c", At: 83, Struct: "S"},
		},
		Funcs: []api.Func{
			{At: 43, Line: 5, End: 6, Vector: 7, Prio: 1},
			{Name: "f", At: 90, Line: 7, End: 11, Vector: -1, Result: api.W32,
				Params: []api.Param{{Name: "x", Type: api.W16, At: 96}, {Name: "y", Type: api.W32, At: 104}}},
			{Name: "g", At: 144, Line: 12, End: 12, Vector: -1},
			{At: 155, Line: 12, End: 13, Vector: 0, Prio: 7},
		},
	})
}

// P3.1: parts of one kind keep their order, whatever stands between; one name may stand twice here.
func TestP31OrderOfParts(t *testing.T) {
	p := parsed(t, "fn b() {} var z: w16; fn a() {} struct k { f: w16; } var z: k; on 3 priority 2 {} struct k { f: w16; f: w16; } fn a() {} on 3 priority 2 {}")
	var names []string
	for _, f := range p.Funcs {
		names = append(names, f.Name)
	}
	for _, g := range p.Globals {
		names = append(names, g.Name+g.Struct)
	}
	for _, s := range p.Structs {
		names = append(names, s.Name)
	}
	if got := strings.Join(names, " "); got != "b a  a  z zk k k" {
		t.Errorf("%q", got)
	}
}

// statementRows are statements, each with what it is; places are told from the statement's own beginning.
func statementRows() map[string]api.Stmt {
	one := func(e api.Expr) []api.Expr { return []api.Expr{e} }
	halt := func(at int) []api.Stmt { return []api.Stmt{{Op: api.SHalt, At: at, Line: 1}} }
	return map[string]api.Stmt{
		"var x: w16 = 5;":                 {Op: api.SVar, Name: "x", Type: api.W16, E: one(num(13, 5))},
		"var x : w32=y ;":                 {Op: api.SVar, Name: "x", Type: api.W32, E: one(name(12, "y"))},
		"x = 1;":                          {Op: api.SSet, Name: "x", E: one(num(4, 1))},
		"x[2] = 3;":                       {Op: api.SCell, Name: "x", E: []api.Expr{num(2, 2), num(7, 3)}},
		"x.y = 3;":                        {Op: api.SField, Name: "x", Field: "y", E: one(num(6, 3))},
		"x();":                            {Op: api.SCall, Func: "x"},
		"x(1);":                           {Op: api.SCall, Func: "x", E: one(num(2, 1))},
		"x(1, y, -2);":                    {Op: api.SCall, Func: "x", E: []api.Expr{num(2, 1), name(5, "y"), with(api.ENeg, 8, num(9, 2))}},
		"x = y();":                        {Op: api.SCall, Name: "x", Func: "y"},
		"x = y(1, 2);":                    {Op: api.SCall, Name: "x", Func: "y", E: []api.Expr{num(6, 1), num(9, 2)}},
		"x = x((1));":                     {Op: api.SCall, Name: "x", Func: "x", E: one(num(7, 1))},
		"in x = gpio.in;":                 {Op: api.SIn, Name: "x", Reg: api.GpioIn},
		"out irq.clear = 1;":              {Op: api.SOut, Reg: api.IrqClear, E: one(num(16, 1))},
		"if (1) { }":                      {Op: api.SIf, E: one(num(4, 1)), End: 1},
		"if (1) { halt; }":                {Op: api.SIf, E: one(num(4, 1)), Body: halt(9), End: 1},
		"if (1) { } else { }":             {Op: api.SIf, E: one(num(4, 1)), End: 1},
		"if (1) { } else { halt; }":       {Op: api.SIf, E: one(num(4, 1)), Else: halt(18), End: 1},
		"if ( x ) {halt;} else{halt; }":   {Op: api.SIf, E: one(name(5, "x")), Body: halt(10), Else: halt(22), End: 1},
		"while (x) { }":                   {Op: api.SWhile, E: one(name(7, "x")), End: 1},
		"while (x) { halt; }":             {Op: api.SWhile, E: one(name(7, "x")), Body: halt(12), End: 1},
		"critical { }":                    {Op: api.SCrit, End: 1},
		"critical { halt; }":              {Op: api.SCrit, Body: halt(11), End: 1},
		"sleep;":                          {Op: api.SSleep},
		"halt ;":                          {Op: api.SHalt},
		"return;":                         {Op: api.SReturn},
		"return x;":                       {Op: api.SReturn, E: one(name(7, "x"))},
		"return(x);":                      {Op: api.SReturn, E: one(name(7, "x"))},
		"return -1;":                      {Op: api.SReturn, E: one(with(api.ENeg, 7, num(8, 1)))},
		"x = (y);":                        {Op: api.SSet, Name: "x", E: one(name(5, "y"))},
		"NAME = anyName;":                 {Op: api.SSet, Name: "NAME", E: one(name(7, "anyName"))},
		"In = w8;":                        {Op: api.SSet, Name: "In", E: one(name(5, "w8"))},
		"number = e;":                     {Op: api.SSet, Name: "number", E: one(name(9, "e"))},
		"count(mask);":                    {Op: api.SCall, Func: "count", E: one(name(6, "mask"))},
		"pend.clear = stat;":              {Op: api.SField, Name: "pend", Field: "clear", E: one(name(13, "stat"))},
		"edge[comp] = ctl;":               {Op: api.SCell, Name: "edge", E: []api.Expr{name(5, "comp"), name(13, "ctl")}},
		"data = data.data;":               {Op: api.SSet, Name: "data", E: one(api.Expr{Op: api.EField, At: 7, Name: "data", Field: "data"})},
		"in t2 = t1.count;":               {Op: api.SIn, Name: "t2", Reg: api.T1Count},
		"x = 0xfFfFfFfF;":                 {Op: api.SSet, Name: "x", E: one(num(4, 1<<32-1))},
		"x = 4294967295;":                 {Op: api.SSet, Name: "x", E: one(num(4, 1<<32-1))},
		"in_out[0] = x[1];":               {Op: api.SCell, Name: "in_out", E: []api.Expr{num(7, 0), {Op: api.EElem, At: 12, Name: "x", Args: []api.Expr{num(14, 1)}}}},
		"x[y[1]] = 2;":                    {Op: api.SCell, Name: "x", E: []api.Expr{{Op: api.EElem, At: 2, Name: "y", Args: []api.Expr{num(4, 1)}}, num(10, 2)}},
		"out uart.data = w16(x);":         {Op: api.SOut, Reg: api.UartData, E: one(with(api.EW16, 16, name(20, "x")))},
		"out t0.ctl = w32 (1) ;":          {Op: api.SOut, Reg: api.T0Ctl, E: one(with(api.EW32, 13, num(18, 1)))},
		"if ((x)) { critical { halt; } }": {Op: api.SIf, E: one(name(5, "x")), Body: []api.Stmt{{Op: api.SCrit, At: 11, Line: 1, Body: halt(22), End: 1}}, End: 1},
	}
}

// moved adds that many bytes to all places of expressions.
func moved(all []api.Expr, by int) []api.Expr {
	var anew []api.Expr
	for _, e := range all {
		e.At += by
		e.Args = moved(e.Args, by)
		anew = append(anew, e)
	}
	return anew
}

// movedStatements adds that many bytes, and lines, to all places of statements.
func movedStatements(all []api.Stmt, bytes, lines int) []api.Stmt {
	var anew []api.Stmt
	for _, s := range all {
		s.At += bytes
		s.Line += lines
		if s.End > 0 {
			s.End += lines
		}
		s.E = moved(s.E, bytes)
		s.Body, s.Else = movedStatements(s.Body, bytes, lines), movedStatements(s.Else, bytes, lines)
		anew = append(anew, s)
	}
	return anew
}

// P3.1: each kind of statement, alone, and behind others on other lines.
func TestP31Statements(t *testing.T) {
	for text, want := range statementRows() {
		want.Line = 1
		all := []api.Stmt{want}
		if got := body(t, text); told(got) != told(movedStatements(all, ahead, 0)) {
			t.Errorf("%q:\n got %s\nwant %s", text, told(got), told(movedStatements(all, ahead, 0)))
		}
		got := body(t, "halt;\nsleep ;\n "+text+"\n halt;")
		if len(got) != 4 || told(got[2:3]) != told(movedStatements(all, ahead+15, 2)) {
			t.Errorf("%q behind others:\n got %s\nwant %s", text, told(got), told(movedStatements(all, ahead+15, 2)))
		}
		got = body(t, "while (1) {\n"+text+"}")
		if len(got) != 1 || told(got[0].Body) != told(movedStatements(all, ahead+12, 1)) {
			t.Errorf("%q within another:\n got %s", text, told(got))
		}
	}
}

// P3.1: a statement's Line is that of its first token, its End that of its first block's brace.
func TestP31Lines(t *testing.T) {
	text := "\nif\n(\n1\n)\n{\n}\nelse\n{\nhalt\n;\n}\nwhile(1\n){\ncritical\n{\n}\n}\nx\n=\n1\n;"
	got := body(t, text)
	choice := api.Stmt{Op: api.SIf, At: 9, Line: 2, End: 7, E: []api.Expr{num(14, 1)}, Else: []api.Stmt{{Op: api.SHalt, At: 29, Line: 10}}}
	section := api.Stmt{Op: api.SCrit, At: 49, Line: 15, End: 17}
	loop := api.Stmt{Op: api.SWhile, At: 38, Line: 13, End: 18, E: []api.Expr{num(44, 1)}, Body: []api.Stmt{section}}
	set := api.Stmt{Op: api.SSet, At: 64, Line: 19, Name: "x", E: []api.Expr{num(68, 1)}}
	if want := []api.Stmt{choice, loop, set}; told(got) != told(want) {
		t.Errorf(" got %s\nwant %s", told(got), told(want))
	}
}

// P3.1: each kind of expression; of one between parentheses just what stands there.
func TestP31Expressions(t *testing.T) {
	elem := func(at int, name string, index api.Expr) api.Expr {
		return api.Expr{Op: api.EElem, At: at, Name: name, Args: []api.Expr{index}}
	}
	field := func(at int, name, field string) api.Expr {
		return api.Expr{Op: api.EField, At: at, Name: name, Field: field}
	}
	rows := map[string]api.Expr{
		"0":            num(0, 0),
		"0x10":         num(0, 16),
		"x":            name(0, "x"),
		"x[1]":         elem(0, "x", num(2, 1)),
		"x [ y[2] ]":   elem(0, "x", elem(4, "y", num(6, 2))),
		"x.y":          field(0, "x", "y"),
		"x . y":        field(0, "x", "y"),
		"-x":           with(api.ENeg, 0, name(1, "x")),
		"~ x":          with(api.ENot, 0, name(2, "x")),
		"!x":           with(api.EZero, 0, name(1, "x")),
		"-~!-1":        with(api.ENeg, 0, with(api.ENot, 1, with(api.EZero, 2, with(api.ENeg, 3, num(4, 1))))),
		"w16(x)":       with(api.EW16, 0, name(4, "x")),
		"w32 ( 1+2 )":  with(api.EW32, 0, with(api.EAdd, 7, num(6, 1), num(8, 2))),
		"w16((x))":     with(api.EW16, 0, name(5, "x")),
		"(x)":          name(1, "x"),
		"((( 7)))":     num(4, 7),
		"(x[1])":       elem(1, "x", num(3, 1)),
		"-(x)":         with(api.ENeg, 0, name(2, "x")),
		"-(x + y)":     with(api.ENeg, 0, with(api.EAdd, 4, name(2, "x"), name(6, "y"))),
		"-x + y":       with(api.EAdd, 3, with(api.ENeg, 0, name(1, "x")), name(5, "y")),
		"x--y":         with(api.ESub, 1, name(0, "x"), with(api.ENeg, 2, name(3, "y"))),
		"x[1] - y.z":   with(api.ESub, 5, elem(0, "x", num(2, 1)), field(7, "y", "z")),
		"(x + y) * z":  with(api.EMul, 8, with(api.EAdd, 3, name(1, "x"), name(5, "y")), name(10, "z")),
		"x * (y + z)":  with(api.EMul, 2, name(0, "x"), with(api.EAdd, 7, name(5, "y"), name(9, "z"))),
		"(x) - (y)":    with(api.ESub, 4, name(1, "x"), name(7, "y")),
		"x - (y - z)":  with(api.ESub, 2, name(0, "x"), with(api.ESub, 7, name(5, "y"), name(9, "z"))),
		"x - y - z":    with(api.ESub, 6, with(api.ESub, 2, name(0, "x"), name(4, "y")), name(8, "z")),
		"!w16(x) == 1": with(api.EEq, 8, with(api.EZero, 0, with(api.EW16, 1, name(5, "x"))), num(11, 1)),
		"-x[1]":        with(api.ENeg, 0, elem(1, "x", num(3, 1))),
		"x[-1 | y]":    elem(0, "x", with(api.EOr, 5, with(api.ENeg, 2, num(3, 1)), name(7, "y"))),
	}
	for text, want := range rows {
		for before, behind := range placesOfExpressions() {
			got := body(t, before+text+behind)
			if e, is := theExpression(got, ahead+len(before)); !is || told(e) != told(moved([]api.Expr{want}, ahead+len(before))[0]) {
				t.Errorf("%q behind %q:\n got %s\nwant %s, moved", text, before, told(got), told(want))
			}
		}
	}
}

// placesOfExpressions are what may stand ahead of an expression, and then behind it.
func placesOfExpressions() map[string]string {
	return map[string]string{
		"x = 1 ; out gpio.out = ": ";", "x=": "; halt;", "z[1]=": ";", "x.y =": ";", "return ": ";", "if (": ") { }", "while(": "){}",
		"f(": ");", "f(1,": ", 2);", "x = f(": ");", "a[": "] = 1;", "var q: w16 =": ";",
	}
}

// theExpression finds the expression whose text begins at the place: the first one whose first token stands there, or behind.
func theExpression(all []api.Stmt, at int) (api.Expr, bool) {
	for _, s := range all {
		for _, e := range s.E {
			if leftmost(e) >= at {
				return e, true
			}
		}
	}
	return api.Expr{}, false
}

func leftmost(e api.Expr) int {
	least := e.At
	for _, arg := range e.Args {
		least = min(least, leftmost(arg))
	}
	return least
}

// registerTexts are all registers' words, by their numbers.
func registerTexts() []string {
	return []string{
		"gpio.out", "gpio.in", "gpio.edge", "uart.data", "uart.stat", "uart.ctl",
		"t0.count", "t0.comp", "t0.ctl", "t1.count", "t1.comp", "t1.ctl", "irq.mask", "irq.pend", "irq.clear",
	}
}

// P3.1: each register has its number, in both statements.
func TestP31Registers(t *testing.T) {
	if len(registerTexts()) != api.LastReg+1 {
		t.Fatal(len(registerTexts()))
	}
	for number, text := range registerTexts() {
		device, word, _ := strings.Cut(text, ".")
		for _, way := range []string{text, device + " . " + word, device + "\n.//\n" + word} {
			got := body(t, "in x = "+way+"; out "+way+" = 1;")
			if len(got) != 2 || got[0].Op != api.SIn || got[1].Op != api.SOut || got[0].Reg != number || got[1].Reg != number {
				t.Errorf("%q: %s, want the register %d", way, told(got), number)
			}
		}
	}
}

// P3.1: a register whose second word is none of its is told at the first one, whatever name or word that is.
func TestP31WrongRegisters(t *testing.T) {
	seconds := append(allWords(), "out", "in", "edge", "data", "stat", "ctl", "count", "comp", "mask", "pend", "clear", "x", "_", "Out", "in_")
	is := map[string]int{}
	for number, text := range registerTexts() {
		is[text] = number
	}
	for _, device := range []string{"gpio", "uart", "t0", "t1", "irq"} {
		for _, second := range seconds {
			text := device + "." + second
			if _, its := is[text]; its {
				parsed(t, "fn f() { in x = "+text+"; }")
				continue
			}
			wantMarked(t, "fn f() { in x = `"+text+"; }", api.ErrReg)
			wantMarked(t, "fn f() { out `"+text+" = 1; }", api.ErrReg)
		}
		for _, second := range []string{"1", ";", "=", ".", "(", "", "{"} {
			wantMarked(t, "fn f() { in x = "+device+" . `"+second, api.ErrToken)
			wantMarked(t, "fn f() { out "+device+" . `"+second, api.ErrToken)
		}
		for _, second := range []string{"out", "=", ";", "", "1", "("} {
			wantMarked(t, "fn f() { in x = "+device+" `"+second, api.ErrToken)
			wantMarked(t, "fn f() { out "+device+" `"+second, api.ErrToken)
		}
	}
	for _, device := range append(wordsOfTheLanguage(), "x", "t2", "t", "Gpio", "1", "(", "") {
		wantMarked(t, "fn f() { in x = `"+device+".out;", api.ErrToken)
		wantMarked(t, "fn f() { out `"+device+".out = 1;", api.ErrToken)
	}
}

func wordsOfTheLanguage() []string {
	return strings.Fields("struct var fn on priority w16 w32 in out if else while critical sleep halt return")
}

func wordsOfDevices() []string {
	return strings.Fields("gpio uart t0 t1 irq")
}

func allWords() []string {
	return append(wordsOfTheLanguage(), wordsOfDevices()...)
}
