package list_test

import (
	"fmt"
	"strings"
	"testing"

	"plover/api"
)

// values are expressions of the globals, each at a place; they stand in the tables below.
func word(at int, name string, typ, addr int) api.Expr {
	return api.Expr{Op: api.EWord, At: at, Name: name, Type: typ, Ref: addr}
}

func local(at int, name string, typ, n int) api.Expr {
	return api.Expr{Op: api.ELocal, At: at, Name: name, Type: typ, Ref: n}
}

func cell(at int, name string, typ, addr int, length int64, index api.Expr) api.Expr {
	return api.Expr{Op: api.ECell, At: at, Name: name, Type: typ, Ref: addr, N: length, Args: []api.Expr{index}}
}

func of(op, at, typ int, args ...api.Expr) api.Expr {
	return api.Expr{Op: op, At: at, Type: typ, Args: args}
}

// moved answers expressions with their places so much later.
func moved(all []api.Expr, by int) []api.Expr {
	var later []api.Expr
	for _, e := range all {
		e.At += by
		e.Args = moved(e.Args, by)
		later = append(later, e)
	}
	return later
}

// aheadOfBody is what stands ahead of a body's statements in texts of TestP91Steps.
const aheadOfBody = globals + "fn h(v: w16, w: w32): w32 { "

// wantStep fails unless the first step of h, with those statements, is that one; places of its expressions are those in the statements.
func wantStep(t *testing.T, text string, want api.Step) {
	t.Helper()
	l := ofText(t, aheadOfBody+text+" } on 1 priority 1 { } fn main() { } fn k(a1: w16): w32 { return 1; }")
	want.E = moved(want.E, len(aheadOfBody))
	want.Line = 1
	wantTold(t, text, l.Units[2].Steps[0], want)
}

func values(all ...api.Expr) []api.Expr {
	return all
}

// P9.1: what a step has: what is set, its type, the value, the arguments, the function, the register; what is not said is zero, or -1.
func TestP91Steps(t *testing.T) {
	const w16, w32 = api.W16, api.W32
	// The words: n 0, m 1, a 2 to 4, b 5 to 9, s.p 10, s.q 11.
	for text, want := range map[string]api.Step{
		"var x: w16 = v;":             {Op: api.StepSet, Var: 2, Addr: -1, Type: w16, E: values(local(13, "v", w16, 0)), Next: 1, Else: -1},
		"var x: w32 = 5;":             {Op: api.StepSet, Var: 2, Addr: -1, Type: w32, E: values(number(13, 5, w32)), Next: 1, Else: -1},
		"v = n;":                      {Op: api.StepSet, Var: 0, Addr: -1, Type: w16, E: values(word(4, "n", w16, 0)), Next: 1, Else: -1},
		"w = m + 1;":                  {Op: api.StepSet, Var: 1, Addr: -1, Type: w32, E: values(of(api.EAdd, 6, w32, word(4, "m", w32, 1), number(8, 1, w32))), Next: 1, Else: -1},
		"n = 40000;":                  {Op: api.StepSet, Var: -1, Addr: 0, Type: w16, E: values(number(4, -25536, w16)), Next: 1, Else: -1},
		"m = -w;":                     {Op: api.StepSet, Var: -1, Addr: 1, Type: w32, E: values(of(api.ENeg, 4, w32, local(5, "w", w32, 1))), Next: 1, Else: -1},
		"s.p = 3;":                    {Op: api.StepSet, Var: -1, Addr: 10, Type: w16, E: values(number(6, 3, w16)), Next: 1, Else: -1},
		"s.q = b[v];":                 {Op: api.StepSet, Var: -1, Addr: 11, Type: w32, E: values(cell(6, "b", w32, 5, 5, local(8, "v", w16, 0))), Next: 1, Else: -1},
		"a[v] = 7;":                   {Op: api.StepSet, Var: -1, Addr: 2, Count: 3, Type: w16, E: values(local(2, "v", w16, 0), number(7, 7, w16)), Next: 1, Else: -1},
		"b[a[4]] = w;":                {Op: api.StepSet, Var: -1, Addr: 5, Count: 5, Type: w32, E: values(cell(2, "a", w16, 2, 3, number(4, 4, w32)), local(10, "w", w32, 1)), Next: 1, Else: -1},
		"f();":                        {Op: api.StepCall, Var: -1, Addr: -1, Func: 0, Next: 1, Else: -1},
		"g(v, 2);":                    {Op: api.StepCall, Var: -1, Addr: -1, Func: 1, E: values(local(2, "v", w16, 0), number(5, 2, w32)), Next: 1, Else: -1},
		"v = g(n, w);":                {Op: api.StepCall, Var: 0, Addr: -1, Func: 1, Type: w16, E: values(word(6, "n", w16, 0), local(9, "w", w32, 1)), Next: 1, Else: -1},
		"n = g(1, m);":                {Op: api.StepCall, Var: -1, Addr: 0, Func: 1, Type: w16, E: values(number(6, 1, w16), word(9, "m", w32, 1)), Next: 1, Else: -1},
		"m = k(a[0]);":                {Op: api.StepCall, Var: -1, Addr: 1, Func: 5, Type: w32, E: values(cell(6, "a", w16, 2, 3, number(8, 0, w32))), Next: 1, Else: -1},
		"k(~n);":                      {Op: api.StepCall, Var: -1, Addr: -1, Func: 5, E: values(of(api.ENot, 2, w16, word(3, "n", w16, 0))), Next: 1, Else: -1},
		"w = h(v, w);":                {Op: api.StepCall, Var: 1, Addr: -1, Func: 2, Type: w32, E: values(local(6, "v", w16, 0), local(9, "w", w32, 1)), Next: 1, Else: -1},
		"in w = gpio.in;":             {Op: api.StepIn, Var: 1, Addr: -1, Type: w32, Reg: api.GpioIn, Next: 1, Else: -1},
		"in n = irq.pend;":            {Op: api.StepIn, Var: -1, Addr: 0, Type: w16, Reg: api.IrqPend, Next: 1, Else: -1},
		"in v = gpio.out;":            {Op: api.StepIn, Var: 0, Addr: -1, Type: w16, Reg: api.GpioOut, Next: 1, Else: -1},
		"out t1.ctl = v < 3;":         {Op: api.StepOut, Var: -1, Addr: -1, Reg: api.T1Ctl, E: values(of(api.ELt, 15, w16, local(13, "v", w16, 0), number(17, 3, w16))), Next: 1, Else: -1},
		"out gpio.out = 70000;":       {Op: api.StepOut, Var: -1, Addr: -1, Reg: api.GpioOut, E: values(number(15, 70000, w32)), Next: 1, Else: -1},
		"if (w16(w)) { } else { }":    {Op: api.StepIf, Var: -1, Addr: -1, E: values(of(api.EW16, 4, w16, local(8, "w", w32, 1))), Next: 1, Else: 1},
		"while (!v) { n = 1; f(); }":  {Op: api.StepIf, Var: -1, Addr: -1, E: values(of(api.EZero, 7, w16, local(8, "v", w16, 0))), Next: 1, Else: 3},
		"critical { n = 1; }":         {Op: api.StepEnter, Var: -1, Addr: -1, Next: 1, Else: -1},
		"sleep;":                      {Op: api.StepSleep, Var: -1, Addr: -1, Next: 1, Else: -1},
		"halt;":                       {Op: api.StepHalt, Var: -1, Addr: -1, Next: -1, Else: -1},
		"return w;":                   {Op: api.StepReturn, Var: -1, Addr: -1, E: values(local(7, "w", w32, 1)), Next: -1, Else: -1},
		"return 2 / 0;":               {Op: api.StepReturn, Var: -1, Addr: -1, E: values(of(api.EDiv, 9, w32, number(7, 2, w32), number(11, 0, w32))), Next: -1, Else: -1},
		"":                            {Op: api.StepEnd, Var: -1, Addr: -1, Next: -1, Else: -1},
		"while (0) { } return 1 + 2;": {Op: api.StepIf, Var: -1, Addr: -1, E: values(number(7, 0, w32)), Next: 0, Else: 1},
	} {
		wantStep(t, text, want)
	}
	last := func(text string) api.Step {
		steps := bodyOf(t, text).Steps
		return steps[len(steps)-2]
	}
	none := api.Step{Op: api.StepLeave, Line: 1, Var: -1, Addr: -1, Next: 2, Else: -1}
	wantTold(t, "the end of a critical", last("critical { }"), none)
	none = api.Step{Op: api.StepReturn, Line: 1, Var: -1, Addr: -1, Next: -1, Else: -1}
	wantTold(t, "a return without a value", last("return;"), none)
}

// P9.1: of what was folded, the folded expressions.
func TestP91Folded(t *testing.T) {
	text := globals + "fn main() { a[1 + 1] = 2 * 3; if (1 < 2) { g(7 - 8, m + 2 * 2); } out gpio.out = 1 / 0 + b[3 - 1]; var x: w16 = ~0; }"
	n := folded(checked(t, text))
	steps := listed(t, text, n).Units[2].Steps
	at := func(piece string) int { return strings.Index(text, piece) }
	wantTold(t, "an element", steps[0], api.Step{Op: api.StepSet, Line: 1, Var: -1, Addr: 2, Count: 3, Type: api.W16, E: values(number(at("+ 1]"), 2, api.W32), number(at("* 3;"), 6, api.W16)), Next: 1, Else: -1})
	wantTold(t, "a condition", steps[1].E, values(number(at("< 2)"), 1, api.W16)))
	wantTold(t, "arguments", told(steps[2].E[0])+told(steps[2].E[1].Args[1]), told(number(at("- 8"), -1, api.W16))+told(number(at("* 2)"), 4, api.W32)))
	body := n.Prog.Funcs[2].Body
	wantTold(t, "a sum", steps[3].E, body[2].E)
	wantTold(t, "a var", steps[4].E, values(number(at("~0"), -1, api.W16)))
}

// P9.1: words, size, and units in order: names, vectors, priorities, parameters, results; which one is main.
func TestP91Units(t *testing.T) {
	text := "on 7 priority 2 { } fn f(x: w16, y: w32): w32 { return y; } struct S { p: w16; q: w32; } var n: w16; on 0 priority 7 { halt; } fn main() { } var a: w32[64]; fn g() { } var s: S; fn h(z: w32): w16 { } on 3 priority 1 { }"
	l := ofText(t, text)
	wantTold(t, "words", l.Words, []api.Word{{Name: "n", Type: api.W16}, {Name: "a", Type: api.W32, Addr: 1, Count: 64}, {Name: "s.p", Type: api.W16, Addr: 65}, {Name: "s.q", Type: api.W32, Addr: 66}})
	wantTold(t, "size and main", []int{l.Size, l.Main}, []int{67, 3})
	var heads []string
	for _, u := range l.Units {
		heads = append(heads, fmt.Sprintf("%s %d %d %d %d", u.Name, u.Vector, u.Prio, u.Params, u.Result))
	}
	wantTold(t, "units", fmt.Sprintf("%q", heads), fmt.Sprintf("%q", []string{"on 7 7 2 0 0", "f -1 0 2 2", "on 0 0 7 0 0", "main -1 0 0 0", "g -1 0 0 0", "h -1 0 1 1", "on 3 3 1 0 0"}))
	wantTold(t, "locals", l.Units[1].Locals, []api.Local{{Name: "x", Type: api.W16, To: 2}, {Name: "y", Type: api.W32, To: 2}})
	for vector := range api.Vectors {
		l := ofText(t, fmt.Sprintf("fn f() { } on %d priority %d { var x: w16 = 1; } fn main() { f(); }", vector, vector%api.MaxPrio+1))
		u := l.Units[1]
		wantTold(t, "a handler", []any{u.Name, u.Vector, u.Prio, u.Params, u.Result, l.Main}, []any{fmt.Sprint("on ", vector), vector, vector%api.MaxPrio + 1, 0, 0, 2})
		wantTold(t, "its locals", u.Locals, []api.Local{{Name: "x", Type: api.W16, From: 1, To: 2}})
		wantTold(t, "nothing", l.Words, []api.Word{})
	}
}
