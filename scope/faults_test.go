package scope_test

import (
	"fmt"
	"strings"
	"testing"

	"plover/api"
	"plover/scope"
)

// wantBodyMarked fails unless the statements of g, resolved, have just that fault at the `.
func wantBodyMarked(t *testing.T, text string, code api.Errno) {
	t.Helper()
	wantMarked(t, programAhead+text+" }", code)
}

// blocks are places where statements stand: at the @.
func blocks() []string {
	return []string{
		"@", "n = 1; @ sleep;", "if (1) { @ }", "if (1) { } else { @ }", "while (1) { @ }", "if (n) { halt; } else { while (m) { sleep; @ } } halt;",
	}
}

// valuePlaces are statements with a place for a value, the @; none has another fault.
func valuePlaces() []string {
	return []string{
		"n = @;", "n = 1 + @;", "n = @ + 1;", "n = -@;", "n = ~@;", "n = !@;", "n = w16(@);", "n = w32(1 + @);", "n = (@) * 2;", "n = 1 << (2 - @);",
		"a[@] = 1;", "a[1] = @;", "a[a[@]] = 1;", "n = a[@];", "n = b[1 + @] - 1;", "s.p = @;", "f(@);", "f(1, @);", "n = f(@);", "n = f(1, 2, @);",
		"out gpio.out = @;", "if (@) { }", "if (@) { } else { }", "if (1) { n = @; }", "if (1) { } else { n = @; }", "while (@) { }", "while (1) { n = @; }",
		"return @;", "var z: w16 = @;", "critical { n = @; }",
	}
}

// wrongValues are values with one fault each, at the `.
func wrongValues() map[string]api.Errno {
	wrong := map[string]api.Errno{
		"`s.u": api.ErrName, "`s.n": api.ErrName, "`s.s": api.ErrName, "`s.S": api.ErrName, "`s.x": api.ErrName, "a[`u]": api.ErrName, "a[a[`s]]": api.ErrSort,
		"`u[u]": api.ErrName, "`n[u]": api.ErrSort, "`u[s]": api.ErrName,
	}
	for _, none := range []string{"u", "p", "q", "z", "x", "N", "nn", "g1"} {
		wrong["`"+none] = api.ErrName
		wrong["`"+none+"[0]"] = api.ErrName
		wrong["`"+none+".p"] = api.ErrName
	}
	for _, function := range []string{"main", "f", "g"} {
		wrong["`"+function] = api.ErrSort
		wrong["`"+function+"[0]"] = api.ErrSort
		wrong["`"+function+".p"] = api.ErrSort
	}
	for _, number := range []string{"n", "m"} {
		wrong["`"+number+"[0]"] = api.ErrSort
		wrong["`"+number+".p"] = api.ErrSort
	}
	for _, array := range []string{"a", "b"} {
		wrong["`"+array] = api.ErrSort
		wrong["`"+array+".p"] = api.ErrSort
	}
	for _, structure := range []string{"s", "S"} {
		wrong["`"+structure] = api.ErrSort
		wrong["`"+structure+"[0]"] = api.ErrSort
	}
	wrong["`S.p"] = api.ErrSort
	return wrong
}

// wrongLocals are values with one fault each, for a local stands there where none may.
func wrongLocals() map[string]api.Errno {
	return map[string]api.Errno{"`v[0]": api.ErrSort, "`w[u]": api.ErrSort, "`v.p": api.ErrSort, "`w.q": api.ErrSort}
}

// P5.1: of a name that means nothing ErrName, of one of another sort ErrSort, of a field that is not there ErrName, at the expression: wherever a value stands.
func TestP51WrongValues(t *testing.T) {
	for _, place := range valuePlaces() {
		for _, block := range blocks() {
			text := strings.Replace(block, "@", place, 1)
			for value, code := range wrongValues() {
				wantBodyMarked(t, strings.Replace(text, "@", value, 1), code)
			}
			for value, code := range wrongLocals() {
				wantBodyMarked(t, strings.Replace(text, "@", value, 1), code)
			}
			for _, right := range []string{"n", "m", "v", "w", "a[n]", "b[v]", "s.p", "s.q", "7", "a[b[w + s.q]]"} {
				body(t, strings.Replace(text, "@", right, 1))
			}
		}
		for value, code := range wrongValues() {
			text := strings.TrimSuffix(programAhead, "fn g(v: w16, w: w32): w32 { ") + "fn g() { } on 6 priority 1 { " + strings.Replace(place, "@", value, 1) + " }"
			wantMarked(t, text, code)
			text = strings.Replace(text, "fn main() { }", "", 1) + " fn main() { }"
			wantMarked(t, text, code)
		}
	}
}

// targetFaults are statements, each with one fault, at its beginning: a name stands for the @ that is, or is not, of the sort that is asked for.
func targetFaults() []struct {
	text  string
	names map[string]api.Errno
} {
	const ok, none, other = api.OK, api.ErrName, api.ErrSort
	numbers := map[string]api.Errno{"n": ok, "m": ok, "v": ok, "w": ok, "u": none, "p": none, "x": none, "a": other, "b": other, "s": other, "S": other, "f": other, "g": other, "main": other}
	arrays := map[string]api.Errno{"a": ok, "b": ok, "u": none, "q": none, "n": other, "m": other, "v": other, "w": other, "s": other, "S": other, "f": other, "main": other}
	structs := map[string]api.Errno{"s": ok, "u": none, "p": none, "n": other, "v": other, "w": other, "a": other, "S": other, "g": other, "main": other}
	fields := map[string]api.Errno{"p": ok, "q": ok, "u": none, "n": none, "s": none, "S": none, "v": none, "main": none}
	funcs := map[string]api.Errno{"f": ok, "g": ok, "u": none, "p": none, "n": other, "m": other, "v": other, "w": other, "a": other, "s": other, "S": other, "main": api.ErrMain}
	type row = struct {
		text  string
		names map[string]api.Errno
	}
	return []row{
		{"@ = 1;", numbers}, {"@ = n + v;", numbers}, {"in @ = gpio.in;", numbers}, {"@ = f();", numbers}, {"@ = g(1, n);", numbers},
		{"@[0] = 1;", arrays}, {"@[a[n]] = v;", arrays}, {"@.p = 1;", structs}, {"@.q = m;", structs}, {"s.@ = 1;", fields},
		{"@();", funcs}, {"@(1, n);", funcs}, {"n = @();", funcs}, {"v = @(2);", funcs},
	}
}

// P5.1: the same of targets, and of functions that are called, at the statement; ErrMain, if that is main.
func TestP51WrongTargets(t *testing.T) {
	for _, row := range targetFaults() {
		for name, code := range row.names {
			for _, block := range append(blocks(), "critical { @ }", "if (1) { critical { n = 1; @ } }") {
				text := strings.Replace(row.text, "@", name, 1)
				if code == api.OK {
					body(t, strings.Replace(block, "@", text, 1))
				} else {
					wantBodyMarked(t, strings.Replace(block, "@", "`"+text, 1), code)
				}
			}
		}
	}
	wantMarked(t, "fn main() { `main(); }", api.ErrMain)
	wantMarked(t, "var x: w16; fn main() { while (1) { `x = main(); } }", api.ErrMain)
	wantMarked(t, "fn main() { } on 0 priority 7 { `main(); }", api.ErrMain)
	wantMarked(t, "on 0 priority 7 { `main(); } fn main() { }", api.ErrMain)
	wantMarked(t, "fn f(x: w16) { `main(1); } fn main() { }", api.ErrMain)
}

// P5.1: both sides of each operator, the left one first.
func TestP51WrongOperands(t *testing.T) {
	for _, mark := range strings.Fields("* / % + - << >> < <= > >= == != & ^ |") {
		wantBodyMarked(t, "n = `u "+mark+" 1;", api.ErrName)
		wantBodyMarked(t, "n = 1 "+mark+" `u;", api.ErrName)
		wantBodyMarked(t, "n = `u "+mark+" a;", api.ErrName)
		wantBodyMarked(t, "n = `a "+mark+" u;", api.ErrSort)
		wantBodyMarked(t, "n = (1 "+mark+" `s.u) "+mark+" (u "+mark+" a);", api.ErrName)
		wantBodyMarked(t, "n = (1 "+mark+" 2) "+mark+" (3 "+mark+" -`a);", api.ErrSort)
	}
}

// P5.1: within a statement: the target first (its name, then its index), then the function, then expressions from left to right, then statements in it; but of var its expression, then its name.
func TestP51OrderInStatements(t *testing.T) {
	for text, code := range map[string]api.Errno{
		"`u = a;": api.ErrName, "`a = u;": api.ErrSort, "`u[s] = s;": api.ErrName, "`n[u] = u;": api.ErrSort, "a[`u] = s;": api.ErrName, "a[`s] = u;": api.ErrSort, "a[1] = `s;": api.ErrSort,
		"a[`u[s]] = s;": api.ErrName, "a[a[`s]] = u;": api.ErrSort, "`u.p = s;": api.ErrName, "`a.p = u;": api.ErrSort, "`s.u = s;": api.ErrName, "s.p = `s;": api.ErrSort,
		"`a = u();": api.ErrSort, "`u = a();": api.ErrName, "`a = main();": api.ErrSort, "`u = main(s);": api.ErrName, "`a = f(u);": api.ErrSort, "`u = f(a);": api.ErrName,
		"`n = a(u);": api.ErrSort, "`n = u(a);": api.ErrName, "`n = main(u);": api.ErrMain, "`a(u);": api.ErrSort, "`u(a);": api.ErrName, "`main(u);": api.ErrMain, "`main(a, u);": api.ErrMain,
		"f(`u, a);": api.ErrName, "f(`a, u);": api.ErrSort, "n = f(1, `a, u);": api.ErrSort, "f(f1 + 1, 2);": api.OK, "f(a[`u], s);": api.ErrName,
		"if (`u) { a = 1; }": api.ErrName, "if (`a) { u = 1; } else { u = 1; }": api.ErrSort, "if (1) { `u = 1; } else { a = 1; }": api.ErrName, "if (1) { } else { `a = u; }": api.ErrSort,
		"while (`a) { u = 1; }": api.ErrSort, "while (1) { `a = 1; u = 2; } u = 3;": api.ErrSort, "critical { `u = 1; return; }": api.ErrName, "critical { `return; u = 1; }": api.ErrCrit,
		"var n: w16 = `u;": api.ErrName, "var n: w16 = `a;": api.ErrSort, "var a: w16 = `a;": api.ErrSort, "var u: w16 = `u;": api.ErrName, "var u: w16 = n + `s.u;": api.ErrName,
		"`var n: w16 = n; u = 1;": api.ErrTwice, "`var v: w16 = v;": api.ErrTwice, "`var f: w16 = 1;": api.ErrTwice,
		"return `u + a;": api.ErrName, "out gpio.out = `a + u;": api.ErrSort, "`in u = gpio.in; a = 1;": api.ErrName, "`in a = gpio.in; u = 1;": api.ErrSort,
		"n = w16(`u) + s;": api.ErrName, "n = a[`s] + u;": api.ErrSort, "n = `u[s] + a;": api.ErrName, "n = -(`s) - u;": api.ErrSort,
	} {
		if code == api.OK {
			body(t, "var f1: w16 = 1; "+text)
			continue
		}
		wantBodyMarked(t, text, code)
	}
}

// P5.1: a return in a critical whose value is wrong, too: which of both is the first one, the chapter leaves open; one of them is told.
func TestP51WrongReturnInCritical(t *testing.T) {
	n, err := scope.Resolve(parsed(t, programAhead+"critical { return u; } }"))
	f, is := err.(*api.Fault)
	if !is || told(n) != told(scope.Names{}) {
		t.Fatalf("%T %v, %s", err, err, told(n))
	}
	if *f != (api.Fault{Code: api.ErrCrit, At: ahead + 11}) && *f != (api.Fault{Code: api.ErrName, At: ahead + 18}) {
		t.Errorf("%v At %d", f.Code, f.At)
	}
}

// P5.1: ErrCrit at a return within a critical, however deep within, and nowhere else.
func TestP51Critical(t *testing.T) {
	for _, text := range []string{
		"critical { `return; }", "critical { `return 1; }", "critical { n = 1; `return v; }", "critical { if (1) { `return; } }", "critical { if (1) { } else { `return w; } }",
		"critical { while (1) { `return; } }", "critical { critical { } `return; }", "critical { critical { `return; } }", "while (1) { critical { `return; } }",
		"if (1) { critical { while (1) { if (1) { halt; } else { `return 1; } } } }", "if (1) { } else { critical { `return; } }", "critical { } critical { `return; }",
		"critical { var z: w16 = 1; while (z) { } `return z; return; }", "if (1) { return; } critical { `return 1; }", "critical { critical { critical { } } if (n) { } `return; }",
	} {
		wantBodyMarked(t, text, api.ErrCrit)
		wantMarked(t, "var n: w16; var v: w16; var w: w16; on 3 priority 2 { "+text+" } fn main() { }", api.ErrCrit)
		wantMarked(t, "var n: w16; var v: w16; var w: w16; fn main() { "+text+" }", api.ErrCrit)
	}
	for _, text := range []string{
		"critical { } return;", "critical { } return 1;", "if (1) { critical { } return; }", "critical { halt; sleep; f(); }", "while (1) { critical { } return w; }",
		"if (1) { critical { } } else { return; }", "critical { while (1) { critical { } } } if (1) { return; }", "if (1) { return; } else { return 1; } return; return;", "while (1) { critical { n = 1; } critical { } } return v;",
	} {
		body(t, text)
	}
}

// P5.1: a var's own expression sees what is in scope ahead of it, not the var itself.
func TestP51OwnExpression(t *testing.T) {
	for text, code := range map[string]api.Errno{
		"var z: w16 = `z;": api.ErrName, "var z: w16 = 1 + -a[`z];": api.ErrName, "var z: w16 = `z[0];": api.ErrName, "var z: w16 = `z.p;": api.ErrName,
		"if (1) { var z: w16 = 1; z = z; } var z: w16 = `z;": api.ErrName, "var y: w16 = `z; var z: w16 = 1;": api.ErrName, "while (1) { var y: w16 = `z; var z: w16 = 1; }": api.ErrName,
		"var z: w16 = v; `var z: w16 = z;": api.ErrTwice, "var z: w16 = v; if (z) { `var z: w16 = z; }": api.ErrTwice, "`var n: w16 = n;": api.ErrTwice,
	} {
		wantBodyMarked(t, text, code)
	}
	want := []api.Stmt{
		{Op: api.SVar, Line: 1, Name: "z", Type: api.W16, E: exprs(local(0, "z", api.W16, 2), with(api.EAdd, 15, local(13, "v", api.W16, 0), word(17, "m", api.W32, 1)))},
		{Op: api.SVar, At: 20, Line: 1, Name: "y", Type: api.W32, E: exprs(local(20, "y", api.W32, 3), cell(33, "a", api.W32, 2, 3, local(35, "z", api.W16, 2)))},
	}
	wantTold(t, "vars", body(t, "var z: w16 = v + m; var y: w32 = a[z];"), movedStatements(want, ahead))
}

// P5.1: a var is in scope from behind it to its block's end, and in the blocks between.
func TestP51InScope(t *testing.T) {
	for _, text := range []string{
		"`z = 1; var z: w16 = 2;", "if (1) { var z: w16 = 1; z = z; } `z = 2;", "if (1) { } else { var z: w16 = 1; z = z; } n = `z;", "if (1) { var z: w16 = 1; } else { `z = 1; }",
		"if (1) { var z: w16 = 1; } else { n = `z; }", "while (1) { var z: w16 = 1; z = 2; } out gpio.out = `z;", "while (`z) { var z: w16 = 1; }", "while (1) { `z = 1; var z: w16 = 2; }",
		"if (1) { n = `z; } var z: w16 = 1;", "critical { var z: w16 = 1; z = 1; } return `z;", "if (1) { while (1) { var z: w16 = 1; z = 1; } `in z = gpio.in; }", "if (1) { critical { var z: w16 = 1; } f(`z); }",
		"if (1) { var z: w16 = 1; if (z) { z = 2; } } while (`z) { }", "while (1) { if (1) { } else { var z: w16 = 1; } a[`z] = 1; }", "if (1) { var z: w16 = 1; } while (1) { var y: w16 = `z; }",
		"if (1) { var z: w16 = 1; z = 2; } if (1) { if (1) { `z = f(); } }",
	} {
		wantBodyMarked(t, text, api.ErrName)
	}
	wantMarked(t, "fn f(x: w16) { var y: w16 = x; y = 1; } fn main() { `x = 1; }", api.ErrName)
	wantMarked(t, "fn f(x: w16) { var y: w16 = x; y = 1; } fn main() { `y = 1; }", api.ErrName)
	wantMarked(t, "fn main() { var y: w16 = 1; y = 2; } on 0 priority 1 { `y = 1; }", api.ErrName)
	wantMarked(t, "fn main() { `y = 1; } fn f(y: w16) { }", api.ErrName)
	n := body(t, "var z: w16 = 1; if (z) { while (z) { critical { z = 1; } z = 2; } } else { z = a[z]; } z = 3; while (1) { if (1) { } else { in z = gpio.in; } }")
	wantTold(t, "z", numbersOf(n), "z20 z20 z20 z20 z20 z20 a21 z20 z20 z20 ")
	n = body(t, "if (v) { var z: w16 = w; if (z) { z = v; } var y: w32 = z; y = z; } else { var z: w32 = 1; v = z; } var y: w16 = 1; w = y; v = n + y;")
	wantTold(t, "z", numbersOf(n), "v00 w11 z20 z20 z20 v00 z20 y31 y31 z20 z41 v00 z41 y50 w11 y50 v00 n00 y50 ")
}

// P5.1: ErrTwice at a var whose name is one of the program's, or of a local in scope.
func TestP51VarTwice(t *testing.T) {
	for _, name := range []string{"n", "m", "a", "b", "s", "S", "main", "f", "g", "v", "w"} {
		for _, block := range append(blocks(), "critical { @ }", "while (v) { var z: w16 = 1; critical { @ } }") {
			for _, typ := range []string{"w16", "w32"} {
				wantBodyMarked(t, strings.Replace(block, "@", "`var "+name+": "+typ+" = 1;", 1), api.ErrTwice)
			}
		}
	}
	for _, text := range []string{
		"var z: w16 = 1; `var z: w16 = 1;", "var z: w16 = 1; if (1) { `var z: w32 = 1; }", "var z: w16 = 1; if (1) { } else { `var z: w16 = 1; }", "while (1) { var z: w16 = 1; critical { `var z: w16 = 1; } }",
		"var z: w16 = 1; if (1) { var y: w16 = z; while (y) { `var z: w16 = y; } }", "var z: w16 = 1; if (1) { var y: w16 = z; while (y) { `var y: w16 = z; } }", "if (1) { var z: w16 = 1; } var z: w16 = 1; `var z: w16 = 1;",
	} {
		wantBodyMarked(t, text, api.ErrTwice)
	}
	body(t, "if (1) { var z: w16 = 1; } else { var z: w16 = 1; } while (1) { var z: w16 = 1; } critical { var z: w16 = 1; } var z: w16 = 1;")
	body(t, "var p: w16 = 1; var q: w16 = s.p; var x: w32 = 1; var y: w16 = 1; var z: w16 = s.q;")
}

// P5.1: ErrTwice at a parameter whose name is one of the program's, also of what stands behind, or of a parameter ahead.
func TestP51ParamTwice(t *testing.T) {
	for _, text := range []string{
		"fn f(x: w16, `x: w16) { } fn main() { }", "fn f(x: w16, y: w16, z: w32, `y: w32) { } fn main() { }", "fn f(`f: w16) { } fn main() { }", "fn f(`main: w16) { } fn main() { }",
		"fn f(x: w16, `n: w16) { } fn main() { } var n: w32;", "fn f(`n: w16) { } fn main() { } var n: w32[2];", "fn f(`S: w16) { } fn main() { } struct S { x: w16; }", "struct S { x: w16; } fn f(`s: w16) { } fn main() { } var s: S;",
		"fn f(`h: w16) { } fn main() { } fn h(x: w16) { }", "fn main() { } fn h(x: w16) { } fn f(a: w16, b: w16, c: w16, d: w16, e: w16, `h: w32) { }",
		"fn f(`n: w16, n: w16) { u = 1; } var n: w16; fn main() { }", "fn f(x: w16, `x: w16) { u = 1; } fn main() { u = 1; }",
	} {
		wantMarked(t, text, api.ErrTwice)
	}
	resolved(t, "struct S { x: w16; y: w16; } var s: S; fn f(x: w16, y: w32) { } fn g(y: w16, x: w16, p: w32, f1: w16, s1: w16, S1: w16) { } fn main() { }")
}

// numbered writes texts with the numbers from least to below most in place of #.
func numbered(text string, least, most int) string {
	var all strings.Builder
	for i := least; i < most; i++ {
		all.WriteString(strings.ReplaceAll(text, "#", fmt.Sprint(i)))
	}
	return all.String()
}

// P5.1: so many vars a function may have, wherever they stand, beside its parameters; ErrMany at one more.
func TestP51ManyVars(t *testing.T) {
	const six = "a: w16, b: w16, c: w16, d: w32, e: w32, f: w32"
	shapes := []string{
		numbered("var l#: w16 = 1; ", 0, 24),
		"if (1) { " + numbered("var l#: w16 = 1; ", 0, 12) + "} else { " + numbered("var l#: w32 = 1; ", 0, 11) + "} var m: w16 = 1; ",
		numbered("while (1) { var l: w16 = #; } ", 0, 24),
		"critical { " + numbered("var l#: w16 = 1; ", 0, 23) + "while (l0) { var l23: w16 = l0; } } ",
	}
	for _, vars := range shapes {
		for _, params := range []string{"", "a: w16", six} {
			n := resolved(t, "fn g("+params+") { "+vars+"} fn main() { } fn h("+params+") { "+vars+"}")
			for _, i := range []int{0, 2} {
				if want := api.MaxLocals + len(n.Prog.Funcs[i].Params); len(n.Locals[i]) != want {
					t.Errorf("%d locals, want %d", len(n.Locals[i]), want)
				}
			}
			for _, more := range []string{"`var z: w16 = 1;", "`var z: w16 = 1; u = 1;", "sleep; `var z: w32 = 2;", "while (1) { `var z: w16 = 1; }", "if (1) { } else { critical { `var z: w16 = 1; } }"} {
				wantMarked(t, "fn main() { } fn g("+params+") { "+vars+more+" }", api.ErrMany)
			}
		}
		for more, code := range map[string]api.Errno{"var z: w16 = `u;": api.ErrName, "var z: w16 = `z;": api.ErrName, "`var main: w16 = 1;": api.ErrTwice, "`var g: w16 = 1;": api.ErrTwice, "`var p: w16 = p;": api.ErrTwice} {
			wantMarked(t, "fn main() { } fn g(p: w16) { "+vars+more+" }", code)
		}
		resolved(t, "fn main() { "+vars+"} on 0 priority 1 { "+vars+"}")
		wantMarked(t, "fn main() { "+vars+"} on 0 priority 1 { "+vars+"`var z: w16 = 1; }", api.ErrMany)
	}
	wantMarked(t, "fn main() { "+numbered("var l#: w16 = 1; ", 0, 24)+"`var l3: w16 = 1; }", api.ErrTwice)
	wantMarked(t, "fn main() { "+numbered("var l#: w16 = 1; ", 0, 24)+"if (1) { `var l23: w16 = 1; } }", api.ErrTwice)
}

// P5.1: so many words the globals may have; ErrMany at the first global with which there are more.
func TestP51ManyWords(t *testing.T) {
	const behind = " fn main() { }"
	sixteen := "struct T { " + numbered("f#: w16; ", 0, 16) + "} struct O { f: w32; } "
	for _, full := range []string{
		numbered("var a#: w16[64]; ", 0, 8), numbered("var s#: T; ", 0, 32), numbered("var a#: w32[64]; ", 0, 7) + numbered("var s#: T; ", 0, 3) + numbered("var n#: w16; ", 0, 15) + "var o: O; ",
		numbered("var n#: w16; ", 0, 64) + numbered("var b#: w16[64]; ", 0, 7), "var n: w16; " + numbered("var b#: w16[64]; ", 0, 7) + "var c: w32[63]; ",
	} {
		n := resolved(t, sixteen+full+behind)
		wantTold(t, full, n.Size, api.MaxGlobals)
		for _, more := range []string{"`z: w16;", "`z: w32[1];", "`z: w16[64];", "`z: O;", "`z: T;", "`z: w16; var y: u;", "`z: w16; var z: w16;"} {
			wantMarked(t, sixteen+full+"var "+more+behind, api.ErrMany)
			wantMarked(t, "fn main() { } "+full+"var "+more+sixteen, api.ErrMany)
		}
		wantMarked(t, sixteen+full+"var `z: u;"+behind, api.ErrName)
		wantMarked(t, sixteen+full+"var `z: main;"+behind, api.ErrSort)
		wantMarked(t, sixteen+full+"var `T: w16;"+behind, api.ErrTwice)
	}
	for room := range 64 {
		almost := sixteen + numbered("var a#: w16[64]; ", 0, 7)
		if room < 63 {
			almost += fmt.Sprintf("var b: w16[%d]; ", 63-room)
		}
		resolved(t, almost+fmt.Sprintf("var c: w32[%d];", room+1)+behind)
		if room < 63 {
			wantMarked(t, almost+fmt.Sprintf("var `c: w32[%d];", room+2)+behind, api.ErrMany)
		}
		if room < 15 {
			wantMarked(t, almost+"var `c: T;"+behind, api.ErrMany)
		} else {
			resolved(t, almost+"var c: T;"+behind)
		}
	}
	wantMarked(t, numbered("var a#: w16[64]; ", 0, 8)+"var `b: w16; var c: w16; var d: w16[64];"+behind, api.ErrMany)
	wantMarked(t, sixteen+numbered("var a#: w16[64]; ", 0, 7)+"var b: w16[50]; var `c: T; var d: w16;"+behind, api.ErrMany)
}

// P5.1: names of structs, globals and functions: each once.
func TestP51ProgramTwice(t *testing.T) {
	kinds := []string{"struct `x { f: w16; }", "var `x: w16;", "var `x: w32[4];", "var `x: A;", "`fn x() { }", "`fn x(p: w16): w16 { return p; }"}
	for i, first := range kinds {
		for j, second := range kinds {
			// Structs stand ahead of globals, and these ahead of functions, wherever they are in the text.
			later := second
			if rank(i) > rank(j) {
				later = first
			}
			for _, between := range []string{" ", " fn main() { } ", " var y: w16; struct B { x: w16; } fn z() { } "} {
				text := "struct A { x: w16; } " + first + between + second + " fn main() { }"
				if strings.Contains(between, "main") {
					text = strings.TrimSuffix(text, " fn main() { }")
				}
				if later == second {
					text = strings.Replace(text, "`", "", 1)
				} else {
					last := strings.LastIndexByte(text, '`')
					text = text[:last] + text[last+1:]
				}
				wantMarked(t, text, api.ErrTwice)
			}
		}
	}
	wantMarked(t, "struct A { f: w16; } struct B { f: w16; } struct `B { f: w16; } struct A { f: w16; } fn main() { }", api.ErrTwice)
	wantMarked(t, "fn main() { } `fn main() { }", api.ErrTwice)
	wantMarked(t, "var main: w16; `fn main() { }", api.ErrTwice)
	wantMarked(t, "fn main() { } fn a() { } fn b() { } `fn a() { } fn b() { }", api.ErrTwice)
}

// rank tells which kinds of TestP51ProgramTwice stand ahead of others.
func rank(kind int) int {
	return []int{0, 1, 1, 1, 2, 2}[kind]
}

// P5.1: fields of one struct have each another name.
func TestP51FieldTwice(t *testing.T) {
	for _, text := range []string{
		"struct S { x: w16; `x: w16; } fn main() { }", "struct S { x: w16; y: w32; z: w16; `y: w16; x: w16; } fn main() { }", "fn main() { } struct T { x: w16; } struct S { a: w16; `a: w32; }",
		"struct S { " + numbered("f#: w16; ", 0, 15) + "`f0: w16; } fn main() { }", "struct S { " + numbered("f#: w16; ", 0, 15) + "`f14: w16; } fn main() { }",
	} {
		wantMarked(t, text, api.ErrTwice)
	}
	resolved(t, "struct S { S: w16; main: w16; T: w16; n: w16; } struct T { S: w32; main: w32; T: w32; } var n: S; fn main() { n.n = n.S; n.main = n.T; }")
}

// P5.1: one handler a vector.
func TestP51VectorTwice(t *testing.T) {
	for vector := range api.Vectors {
		wantMarked(t, fmt.Sprintf("on %d priority 1 { } fn main() { } `on %d priority 1 { }", vector, vector), api.ErrTwice)
		wantMarked(t, fmt.Sprintf("fn main() { } on %d priority 1 { } on %d priority 3 { } `on %d priority 7 { }", vector, (vector+1)%api.Vectors, vector), api.ErrTwice)
	}
	text := numbered("on # priority 3 { } ", 0, api.Vectors)
	resolved(t, text+"fn main() { }")
	for vector := range api.Vectors {
		wantMarked(t, text+"fn main() { } "+fmt.Sprintf("`on %d priority 3 { } on 0 priority 1 { }", vector), api.ErrTwice)
	}
}

// P5.1: a global of a struct: ErrName, if its type's name is none of the program's, ErrSort, if that is no struct's.
func TestP51WrongTypes(t *testing.T) {
	for text, code := range map[string]api.Errno{
		"var `x: T; fn main() { }": api.ErrName, "struct S { T: w16; } var s: S; var `x: T; fn main() { }": api.ErrName, "fn main() { var T: w16 = 1; } var `x: T;": api.ErrName, "fn main() { } fn f(T: w16) { } var `x: T;": api.ErrName,
		"var n: w16; var `x: n; fn main() { }": api.ErrSort, "var n: w16[3]; var `x: n; fn main() { }": api.ErrSort, "struct S { f: w16; } var s: S; var `x: s; fn main() { }": api.ErrSort,
		"var `x: x; fn main() { }": api.ErrSort, "var `x: main; fn main() { }": api.ErrSort, "fn f() { } var `x: f; fn main() { }": api.ErrSort, "var `x: f; fn main() { } fn f() { }": api.ErrSort,
		"var `x: n; var n: w16; fn main() { }": api.ErrSort, "var `x: n; var n: w16[2]; fn main() { }": api.ErrSort, "var `x: s; var s: S; struct S { f: w16; } fn main() { }": api.ErrSort,
		"struct S { f: w16; } var s: S; var `s: T; fn main() { }": api.ErrTwice, "var `x: y; var y: T; fn main() { }": api.ErrSort, "var x: S; struct S { f: w16; } var `y: T; fn main() { }": api.ErrName,
	} {
		wantMarked(t, text, code)
	}
	resolved(t, "var x: S; fn main() { x.f = 1; } struct S { f: w16; }")
}

// P5.1: ErrMain At 0, if there is no function main; At main, if it has a parameter, or a result.
func TestP51Main(t *testing.T) {
	for _, text := range []string{
		"", " \n", "fn f() { }", "\n fn Main() { }", "var main: w16;", "  struct main { f: w16; }", "var x: w16; on 0 priority 1 { } fn f(main: w16) { }", " fn f() { var main: w16 = 1; }",
		"on 1 priority 1 { }", "fn f(x: w16, x: w16) { }", " fn f() { u = 1; }", "fn f() { main(); }", "struct S { main: w16; } var s: S;", "fn main1() { } fn mai() { }",
	} {
		wantFault(t, text, api.ErrMain, 0)
	}
	for _, text := range []string{
		"`fn main(x: w16) { }", "fn f() { } `fn main(): w16 { return 1; }", " `fn main(): w32 { }", "on 0 priority 1 { } `fn main(x: w16, y: w32): w32 { }", "fn f(x: w16, x: w16) { } `fn main(x: w16, x: w16) { u = 1; }",
		"fn f() { main(); } `fn main(main: w16) { } fn g() { u = 1; }", "fn f() { u = 1; } `fn main(x: w16) { }",
	} {
		wantMarked(t, text, api.ErrMain)
	}
}

// piece is a part of a program with one fault, at the `; the lowest phase is told first.
type piece struct {
	phase int
	text  string
	code  api.Errno
}

func pieces() []piece {
	return []piece{
		{0, "struct A { x: w16; } struct `A { x: w16; }", api.ErrTwice},
		{0, "struct B { y: w16; `y: w32; }", api.ErrTwice},
		{1, "var c: w16; var `c: w32;", api.ErrTwice},
		{1, "struct D { x: w16; } var `D: w32[3];", api.ErrTwice},
		{1, "var `d: Nope;", api.ErrName},
		{1, "var `e: e2; var e2: w16;", api.ErrSort},
		{1, "var `h: h2; fn h2() { }", api.ErrSort},
		{2, "fn l() { } `fn l() { }", api.ErrTwice},
		{2, "var l2: w16; `fn l2() { }", api.ErrTwice},
		{2, "on 5 priority 1 { } `on 5 priority 2 { }", api.ErrTwice},
		{3, "`fn main(x: w16) { }", api.ErrMain},
		{3, "`fn main(): w32 { }", api.ErrMain},
		{4, "fn q(t: w16, `t: w32) { }", api.ErrTwice},
		{4, "fn r(`q1: w16) { } fn q1() { }", api.ErrTwice},
		{4, "fn r1() { `nope = 1; }", api.ErrName},
		{4, "fn r2() { if (1) { `r2 = 1; } }", api.ErrSort},
		{4, "fn r3(o: w16) { `var o: w16 = 1; }", api.ErrTwice},
		{4, "fn r4() { " + numbered("var o#: w16 = 1; ", 0, 24) + "`var o: w16 = 1; }", api.ErrMany},
		{4, "on 4 priority 1 { critical { `return; } }", api.ErrCrit},
		{4, "fn r5() { `main(); }", api.ErrMain},
	}
}

// P5.1: of two faults in two parts the one that is told first: structs, globals, functions; then main; then what stands in functions, in their order.
func TestP51TwoFaults(t *testing.T) {
	for i, first := range pieces() {
		wantMarked(t, withMain(first.text), first.code)
		for j, second := range pieces() {
			if i == j || first.phase == 3 && second.phase == 3 {
				continue
			}
			one, other := first.text, second.text
			code := first.code
			if first.phase <= second.phase {
				other = strings.Replace(other, "`", "", 1)
			} else {
				one = strings.Replace(one, "`", "", 1)
				code = second.code
			}
			wantMarked(t, withMain(one+"\n"+other), code)
		}
	}
	for _, p := range pieces() {
		if p.phase < 3 {
			wantMarked(t, p.text, p.code)
		} else if p.phase > 3 {
			wantFault(t, strings.Replace(p.text, "`", "", 1), api.ErrMain, 0)
		}
	}
	words := numbered("var w#: w16[64]; ", 0, 8)
	for _, p := range pieces() {
		text := strings.Replace(p.text, "`", "", 1)
		switch {
		case p.phase == 0:
			wantMarked(t, withMain(words+"var w: w16; "+p.text), p.code)
		case p.phase > 1:
			wantMarked(t, withMain("fn z() { } "+strings.ReplaceAll(text, "var l2: w16; ", "")+words+"var `w: w16;"), api.ErrMany)
		}
	}
}

// withMain adds a main without faults, if there is none.
func withMain(text string) string {
	if strings.Contains(text, "fn main(") {
		return text
	}
	return text + "\nfn main() { }"
}

// bodyFaults are statements with one fault each; they can stand in g of programAhead, in any row.
func bodyFaults() map[string]api.Errno {
	return map[string]api.Errno{
		"`u = 1;": api.ErrName, "`a = 1;": api.ErrSort, "n = 1 + `u;": api.ErrName, "n = 1 + `s;": api.ErrSort, "`s.u = 1;": api.ErrName, "n = -`s.u;": api.ErrName, "a[`u] = 1;": api.ErrName,
		"`n[0] = 1;": api.ErrSort, "n = `m[0];": api.ErrSort, "`u();": api.ErrName, "n = f(1, `u);": api.ErrName, "`n = a();": api.ErrSort, "`main();": api.ErrMain, "critical { `return 1; }": api.ErrCrit,
		"`in S = gpio.in;": api.ErrSort, "out gpio.out = `a;": api.ErrSort, "if (`u) { }": api.ErrName, "while (1) { `f = 1; }": api.ErrSort, "if (1) { } else { n = `u[1]; }": api.ErrName,
		"`var n: w16 = 1;": api.ErrTwice, "`var v: w32 = 1;": api.ErrTwice, "var x: w16 = `x;": api.ErrName, "while (1) { if (n) { } else { critical { `var f: w16 = 1; } } }": api.ErrTwice,
		"if (1) { " + numbered("var o#: w16 = 1; ", 0, 24) + "`var o24: w16 = 1; }": api.ErrMany,
	}
}

// P5.1: of two faults in one function the one that stands first, also within statements; of two functions the first one's.
func TestP51TwoFaultsInStatements(t *testing.T) {
	for first, code := range bodyFaults() {
		wantBodyMarked(t, first, code)
		for second := range bodyFaults() {
			second = strings.Replace(second, "`", "", 1)
			wantBodyMarked(t, first+" "+second, code)
			wantBodyMarked(t, "if (1) { "+first+" } "+second, code)
			wantBodyMarked(t, "if (1) { "+first+" } else { "+second+" }", code)
			wantBodyMarked(t, "while (1) { critical { "+first+" } } "+second, code)
			wantBodyMarked(t, first+" } fn g2() { "+second, code)
			wantBodyMarked(t, first+" } on 1 priority 1 { "+second, code)
		}
	}
}
