package types_test

import (
	"errors"
	"fmt"
	"strings"
	"testing"

	"plover/api"
	"plover/parse"
	"plover/scope"
	"plover/types"
)

// told writes a thing down; lists that are empty, and none, look the same.
func told(p any) string {
	return fmt.Sprintf("%+v", p)
}

// resolved answers the names of a text, and fails if there are none.
func resolved(t *testing.T, text string) scope.Names {
	t.Helper()
	p, err := parse.Parse(text)
	if err != nil {
		t.Fatalf("%.800q: %v (%+v), want a program", text, err, err)
	}
	n, err := scope.Resolve(p)
	if err != nil {
		t.Fatalf("%.800q: %v (%+v), want names", text, err, err)
	}
	return n
}

// checked answers what Check makes of a text, and fails if that is a fault, or if the names do not stay as they were.
func checked(t *testing.T, text string) scope.Names {
	t.Helper()
	n := resolved(t, text)
	before := told(n)
	c, err := types.Check(n)
	if err != nil {
		t.Fatalf("%.800q: %v (%+v), want no fault", text, err, err)
	}
	if told(n) != before {
		t.Errorf("%.800q: the names were\n%s\nand are\n%s", text, before, told(n))
	}
	return c
}

// wantFaultOf fails unless these names have just that fault, beside zero names, and stay as they were.
func wantFaultOf(t *testing.T, text string, n scope.Names, code api.Errno, at int) {
	t.Helper()
	before := told(n)
	c, err := types.Check(n)
	if told(n) != before {
		t.Errorf("%.800q: the names were\n%s\nand are\n%s", text, before, told(n))
	}
	if told(c) != told(scope.Names{}) {
		t.Errorf("%.800q: names beside an error: %.300s", text, told(c))
	}
	f, is := err.(*api.Fault)
	if !is || f == nil {
		t.Errorf("%.800q: %T %v, want a *api.Fault %v At %d", text, err, err, code, at)
		return
	}
	if f.Code != code || f.At != at {
		t.Errorf("%.800q: %v At %d, want %v At %d", text, f.Code, f.At, code, at)
	}
	if !errors.Is(err, code) {
		t.Errorf("%.800q: %v does not unwrap to %v", text, err, code)
	}
}

// wantFault is wantFaultOf, of a text.
func wantFault(t *testing.T, text string, code api.Errno, at int) {
	t.Helper()
	wantFaultOf(t, text, resolved(t, text), code, at)
}

// wantMarked is wantFault, at the place of the ` in the text, which is taken out.
func wantMarked(t *testing.T, text string, code api.Errno) {
	t.Helper()
	ahead, behind, is := strings.Cut(text, "`")
	if !is {
		t.Fatalf("%q has no mark", text)
	}
	wantFault(t, ahead+behind, code, len(ahead))
}

// wantTold fails unless two things are the same when they are written down.
func wantTold(t *testing.T, about string, got, want any) {
	t.Helper()
	if told(got) != told(want) {
		t.Errorf("%.800s:\n got %.3000s\nwant %.3000s", about, told(got), told(want))
	}
}

// marks are the marks of operators, by their kinds.
func marks() []string {
	return []string{
		api.ENeg: "-", api.ENot: "~", api.EZero: "!", api.EW16: "w16", api.EW32: "w32",
		api.EMul: "*", api.EDiv: "/", api.ERem: "%", api.EAdd: "+", api.ESub: "-", api.EShl: "<<", api.EShr: ">>", api.ELt: "<", api.ELe: "<=",
		api.EGt: ">", api.EGe: ">=", api.EEq: "==", api.ENe: "!=", api.EAnd: "&", api.EXor: "^", api.EOr: "|",
	}
}

// typed writes an expression with the bits of the type of each part: behind a name, a number, or an operator's mark.
func typed(e api.Expr) string {
	bits := map[int]string{api.NoType: ":none", api.W16: ":16", api.W32: ":32"}[e.Type]
	switch {
	case e.Op == api.ENum:
		return fmt.Sprint(e.N) + bits
	case e.Op == api.ELocal, e.Op == api.EWord && e.Field == "":
		return e.Name + bits
	case e.Op == api.EWord:
		return e.Name + "." + e.Field + bits
	case e.Op == api.ECell:
		return e.Name + bits + "[" + typed(e.Args[0]) + "]"
	case len(e.Args) == 1:
		return marks()[e.Op] + bits + "(" + typed(e.Args[0]) + ")"
	}
	return "(" + typed(e.Args[0]) + " " + marks()[e.Op] + bits + " " + typed(e.Args[1]) + ")"
}

// typedStatements writes all expressions of statements, and of those in them, in order.
func typedStatements(body []api.Stmt) string {
	var all []string
	for _, s := range body {
		for _, e := range s.E {
			all = append(all, typed(e))
		}
		for _, inner := range [][]api.Stmt{s.Body, s.Else} {
			if len(inner) > 0 {
				all = append(all, "{ "+typedStatements(inner)+" }")
			}
		}
	}
	return strings.Join(all, " ; ")
}

// programAhead stands ahead of the statements of most tests: x, a, s.p, v are w16, y, b, s.q, w are w32; of functions f returns a w16, g, k a w32, h nothing.
const programAhead = "struct S { p: w16; q: w32; } var x: w16; var y: w32; var a: w16[3]; var b: w32[5]; var s: S; fn main() { } " +
	"fn f(i: w16, j: w32): w16 { return 1; } fn g(i: w32): w32 { return i; } fn h() { } fn k(v: w16, w: w32): w32 { "

// wantTyped fails unless the statements of k have these types and values.
func wantTyped(t *testing.T, text, want string) {
	t.Helper()
	n := checked(t, programAhead+text+" }")
	if got := typedStatements(n.Prog.Funcs[4].Body); got != want {
		t.Errorf("%s\n got %s\nwant %s", text, got, want)
	}
}

// wantBodyMarked fails unless the statements of k have just that fault at the `.
func wantBodyMarked(t *testing.T, text string, code api.Errno) {
	t.Helper()
	wantMarked(t, programAhead+text+" }", code)
}

// P6.1: the chapter's examples.
func TestP61Examples(t *testing.T) {
	wantTyped(t, "x = 40000;", "x:16 ; -25536:16")
	wantTyped(t, "x = 1 + 2;", "x:16 ; (1:16 +:16 2:16)")
	wantTyped(t, "y = 4000000000;", "y:32 ; -294967296:32")
	wantBodyMarked(t, "x = `y;", api.ErrType)
	wantBodyMarked(t, "x = x `+ y;", api.ErrType)
	wantBodyMarked(t, "x = `65536;", api.ErrNumber)
	wantTyped(t, "x = y < 3;", "x:16 ; (y:32 <:16 3:32)")
	wantBodyMarked(t, "y = 3 `== 4;", api.ErrType)
	wantTyped(t, "x = w16(70000);", "x:16 ; w16:16(70000:32)")
	wantTyped(t, "y = y << x;", "y:32 ; (y:32 <<:32 x:16)")
	wantTyped(t, "y = 1 << x;", "y:32 ; (1:32 <<:32 x:16)")
	wantTyped(t, "a[y] = 7;", "a:16[y:32] ; 7:16")
	wantTyped(t, "out gpio.out = 70000;", "70000:32")
}

// P6.1, and the document's examples.
func TestP61DocumentsExamples(t *testing.T) {
	n := checked(t, "var x: w16; fn main() { x = 40000; }")
	wantTold(t, "40000", n.Prog.Funcs[0].Body[0].E[1], api.Expr{Op: api.ENum, At: 28, N: -25536, Type: api.W16})
	wantFault(t, "var x: w16; fn main() { x = 65536; }", api.ErrNumber, 28)
	n = checked(t, "fn main() { out gpio.out = 5; }")
	wantTold(t, "5", n.Prog.Funcs[0].Body[0].E, []api.Expr{{Op: api.ENum, At: 27, N: 5, Type: api.W32}})
	checked(t, "var h: w16[2]; fn main() { h[2] = 1; }")
	checked(t, "fn main() { var x: w16 = 1 / 0; }")
	checked(t, "fn f() { f(); } fn main() { }")
	checked(t, "on 0 priority 1 { out gpio.out = 7; } fn main() { out gpio.edge = 1; out irq.mask = 1; sleep; halt; }")
}

// statementRows are statements without a fault, each with the types and values of its expressions.
func statementRows() map[string]string {
	return map[string]string{
		"var z: w16 = 5;":                 "z:16 ; 5:16",
		"var z: w32 = 5;":                 "z:32 ; 5:32",
		"var z: w16 = v;":                 "z:16 ; v:16",
		"var z: w32 = b[3];":              "z:32 ; b:32[3:32]",
		"x = 5;":                          "x:16 ; 5:16",
		"y = 5;":                          "y:32 ; 5:32",
		"v = s.p;":                        "v:16 ; s.p:16",
		"w = s.q;":                        "w:32 ; s.q:32",
		"a[1] = 40000;":                   "a:16[1:32] ; -25536:16",
		"b[1] = 40000;":                   "b:32[1:32] ; 40000:32",
		"a[x] = a[y];":                    "a:16[x:16] ; a:16[y:32]",
		"b[a[b[v]]] = b[70000];":          "b:32[a:16[b:32[v:16]]] ; b:32[70000:32]",
		"b[x + 40000] = 3;":               "b:32[(x:16 +:16 -25536:16)] ; 3:32",
		"a[y + 70000] = 3;":               "a:16[(y:32 +:32 70000:32)] ; 3:16",
		"a[1 + 70000] = 3;":               "a:16[(1:32 +:32 70000:32)] ; 3:16",
		"a[x < 3] = 3;":                   "a:16[(x:16 <:16 3:16)] ; 3:16",
		"s.p = 65535;":                    "s.p:16 ; -1:16",
		"s.q = 65535;":                    "s.q:32 ; 65535:32",
		"s.q = y + 1;":                    "s.q:32 ; (y:32 +:32 1:32)",
		"h();":                            "",
		"f(1, 2);":                        "1:16 ; 2:32",
		"f(40000, 40000);":                "-25536:16 ; 40000:32",
		"f(x, y);":                        "x:16 ; y:32",
		"f(a[y], b[x]);":                  "a:16[y:32] ; b:32[x:16]",
		"f(y < 3, w32(x));":               "(y:32 <:16 3:32) ; w32:32(x:16)",
		"x = f(1 + 2, 1 + 2);":            "x:16 ; (1:16 +:16 2:16) ; (1:32 +:32 2:32)",
		"v = f(x, 1 << v);":               "v:16 ; x:16 ; (1:32 <<:32 v:16)",
		"y = g(3);":                       "y:32 ; 3:32",
		"w = g(w);":                       "w:32 ; w:32",
		"in x = gpio.in;":                 "x:16",
		"in w = t0.count;":                "w:32",
		"out gpio.out = x;":               "x:16",
		"out uart.data = y + 70000;":      "(y:32 +:32 70000:32)",
		"out t1.comp = x + 40000;":        "(x:16 +:16 -25536:16)",
		"out irq.mask = 1 + 70000;":       "(1:32 +:32 70000:32)",
		"out irq.clear = 4294967295;":     "-1:32",
		"if (x) { }":                      "x:16",
		"if (y) { }":                      "y:32",
		"if (70000) { }":                  "70000:32",
		"if (3 == 70000) { }":             "(3:32 ==:16 70000:32)",
		"if (x == 40000) { }":             "(x:16 ==:16 -25536:16)",
		"if (x) { x = 5; } else { y=5; }": "x:16 ; { x:16 ; 5:16 } ; { y:32 ; 5:32 }",
		"while (1) { x = 1; }":            "1:32 ; { x:16 ; 1:16 }",
		"while (y > 2147483648) { }":      "(y:32 >:16 -2147483648:32)",
		"critical { x = 65535; y = 2; }":  "{ x:16 ; -1:16 ; y:32 ; 2:32 }",
		"sleep;":                          "",
		"halt;":                           "",
		"return 40000;":                   "40000:32",
		"return w;":                       "w:32",
		"return 1 << x;":                  "(1:32 <<:32 x:16)",
		"return w32(x < 1);":              "w32:32((x:16 <:16 1:16))",
	}
}

// P6.1: each kind of statement: alone, behind others, and within others.
func TestP61Statements(t *testing.T) {
	for text, want := range statementRows() {
		wantTyped(t, text, want)
		if want == "" {
			wantTyped(t, text+" y = 7; "+text, "y:32 ; 7:32")
			continue
		}
		wantTyped(t, "x = v; sleep; "+text+" y = 7;", "x:16 ; v:16 ; "+want+" ; y:32 ; 7:32")
		wantTyped(t, "if (1) { "+text+" }", "1:32 ; { "+want+" }")
		wantTyped(t, "if (x) { } else { "+text+" }", "x:16 ; { "+want+" }")
		wantTyped(t, "while (y) { while (v) { "+text+" } }", "y:32 ; { v:16 ; { "+want+" } }")
		if !strings.HasPrefix(text, "return") {
			wantTyped(t, "critical { halt; "+text+" }", "{ "+want+" }")
		}
	}
}

// P6.1: statements of handlers and of main, as those of functions.
func TestP61Units(t *testing.T) {
	n := checked(t, "var x: w16; var y: w32; on 3 priority 1 { x = 40000; f(1); } fn f(z: w16) { y = 40000; } on 0 priority 7 { if (y) { x = !y; } } fn main() { x = f2(); var z: w16 = 3; } fn f2(): w16 { return x; }")
	for i, want := range []string{
		"x:16 ; -25536:16 ; 1:16", "y:32 ; 40000:32", "y:32 ; { x:16 ; !:16(y:32) }", "x:16 ; z:16 ; 3:16", "x:16",
	} {
		if got := typedStatements(n.Prog.Funcs[i].Body); got != want {
			t.Errorf("unit %d:\n got %s\nwant %s", i, got, want)
		}
	}
}

// P6.1: what each function returns; a handler, and main, nothing.
func TestP61Returns(t *testing.T) {
	for text, want := range map[string]string{
		"fn r(): w16 { return 40000; }":                         "-25536:16",
		"fn r(): w32 { return 40000; }":                         "40000:32",
		"fn r(): w16 { }":                                       "",
		"fn r() { return; }":                                    "",
		"fn r() { if (1) { return; } else { return; } }":        "1:32 ; {  } ; {  }",
		"on 0 priority 1 { return; }":                           "",
		"on 7 priority 7 { while (1) { return; } }":             "1:32 ; {  }",
		"fn r(z: w16): w32 { if (z) { return 1; } return 2; }":  "z:16 ; { 1:32 } ; 2:32",
		"fn r(z: w32): w16 { while (z) { return z == z; } }":    "z:32 ; { (z:32 ==:16 z:32) }",
		"fn r(z: w16, u: w32): w16 { return z + w16(u) + 1; }":  "((z:16 +:16 w16:16(u:32)) +:16 1:16)",
		"fn r(z: w16, u: w32): w32 { return w32(z) * u | 9; }":  "((w32:32(z:16) *:32 u:32) |:32 9:32)",
		"fn r(z: w16, u: w32): w32 { return 3 - (u + 65536); }": "(3:32 -:32 (u:32 +:32 65536:32))",
	} {
		n := checked(t, text+" fn main() { return; }")
		if got := typedStatements(n.Prog.Funcs[0].Body); got != want {
			t.Errorf("%s\n got %s\nwant %s", text, got, want)
		}
	}
}

// P6.1: all but types and values is as it was: words, size, locals, structs, globals, functions, places, lines, references.
func TestP61TheSame(t *testing.T) {
	n := resolved(t, wholeText)
	c := checked(t, wholeText)
	wantTold(t, "words", c.Words, n.Words)
	wantTold(t, "size", c.Size, n.Size)
	wantTold(t, "locals", c.Locals, n.Locals)
	wantTold(t, "program", untypedProgram(c.Prog), n.Prog)
	if len(n.Words) == 0 || n.Size == 0 || len(n.Locals) == 0 || told(c.Prog) == told(n.Prog) {
		t.Error("there is nothing to look at")
	}
}

// untypedProgram undoes what the chapter says of a program checked; what is left must be the program as it was resolved.
func untypedProgram(p api.Prog) api.Prog {
	var funcs []api.Func
	for _, f := range p.Funcs {
		f.Body = untypedStatements(f.Body)
		funcs = append(funcs, f)
	}
	p.Funcs = funcs
	return p
}

func untypedStatements(body []api.Stmt) []api.Stmt {
	var all []api.Stmt
	for _, s := range body {
		s.E = untyped(s.E)
		s.Body, s.Else = untypedStatements(s.Body), untypedStatements(s.Else)
		all = append(all, s)
	}
	return all
}

func untyped(list []api.Expr) []api.Expr {
	var all []api.Expr
	for _, e := range list {
		switch e.Op {
		case api.ELocal, api.EWord, api.ECell:
		case api.ENum:
			if e.N < 0 {
				e.N += map[int]int64{api.W16: 1 << 16, api.W32: 1 << 32}[e.Type]
			}
			e.Type = api.NoType
		default:
			e.Type = api.NoType
		}
		e.Args = untyped(e.Args)
		all = append(all, e)
	}
	return all
}
