package list_test

import (
	"errors"
	"fmt"
	"strings"
	"testing"

	"plover/api"
	"plover/fold"
	"plover/list"
	"plover/parse"
	"plover/scope"
	"plover/types"
)

// told writes a thing down; lists that are empty, and none, look the same.
func told(p any) string {
	return fmt.Sprintf("%+v", p)
}

// wantTold fails unless two things are the same when they are written down.
func wantTold(t *testing.T, about string, got, want any) {
	t.Helper()
	if told(got) != told(want) {
		t.Errorf("%.800s:\n got %.4000s\nwant %.4000s", about, told(got), told(want))
	}
}

// checked answers the names of a text's program, resolved and checked.
func checked(t *testing.T, text string) scope.Names {
	t.Helper()
	p, err := parse.Parse(text)
	if err != nil {
		t.Fatalf("%.800q: %v (%+v), want a program", text, err, err)
	}
	n, err := scope.Resolve(p)
	if err == nil {
		n, err = types.Check(n)
	}
	if err != nil {
		t.Fatalf("%.800q: %v (%+v), want names", text, err, err)
	}
	return n
}

// folded answers the same names with all expressions folded.
func folded(n scope.Names) scope.Names {
	n.Prog = fold.Prog(n.Prog)
	return n
}

// listed answers the list of names, which stay as they are.
func listed(t *testing.T, about string, n scope.Names) api.List {
	t.Helper()
	before := told(n)
	l, err := list.Make(n)
	if err != nil {
		t.Fatalf("%.800q: %v (%+v), want a list", about, err, err)
	}
	wantTold(t, "what was handed in: "+about, told(n), before)
	return l
}

// ofText answers the list of a text's program.
func ofText(t *testing.T, text string) api.List {
	t.Helper()
	return listed(t, text, checked(t, text))
}

// wantMany fails unless names are refused, with ErrMany at that place.
func wantMany(t *testing.T, about string, n scope.Names, at int) {
	t.Helper()
	before := told(n)
	l, err := list.Make(n)
	f, is := err.(*api.Fault)
	if !is || f == nil || *f != (api.Fault{Code: api.ErrMany, At: at}) || !errors.Is(err, api.ErrMany) {
		t.Errorf("%.400s: %T %+v, want ErrMany At %d", about, err, err, at)
	}
	wantTold(t, "the list beside a fault", l, api.List{})
	wantTold(t, "what was handed in: "+about, told(n), before)
}

// nameOf is the name of a kind of steps.
func nameOf(op int) string {
	names := []string{"Set", "Call", "In", "Out", "If", "Enter", "Leave", "Sleep", "Halt", "Return", "End"}
	if op < 0 || op >= len(names) {
		return fmt.Sprint("kind ", op)
	}
	return names[op]
}

// ways writes of each step its kind and where it goes on: "Set>1", of a StepIf both, "If>1|4"; -1 is written as -.
func ways(steps []api.Step) string {
	place := func(n int) string {
		if n == -1 {
			return "-"
		}
		return fmt.Sprint(n)
	}
	var all []string
	for _, s := range steps {
		way := nameOf(s.Op) + ">" + place(s.Next)
		if s.Op == api.StepIf || s.Else != -1 {
			way += "|" + place(s.Else)
		}
		all = append(all, way)
	}
	return strings.Join(all, " ")
}

// linesOf writes the lines of steps.
func linesOf(steps []api.Step) string {
	var all []string
	for _, s := range steps {
		all = append(all, fmt.Sprint(s.Line))
	}
	return strings.Join(all, " ")
}

// localsOf writes locals: "x 0 to 3".
func localsOf(all []api.Local) string {
	var each []string
	for _, l := range all {
		each = append(each, fmt.Sprintf("%s %d to %d", l.Name, l.From, l.To))
	}
	return strings.Join(each, ", ")
}

// globals stand ahead of the bodies of the tables below; they have lines of their own, none.
const globals = "struct S { p: w16; q: w32; } var n: w16; var m: w32; var a: w16[3]; var b: w32[5]; var s: S; fn f() { } fn g(v: w16, w: w32): w16 { return v; } "

// bodyOf answers the unit of main with those statements, behind the globals.
func bodyOf(t *testing.T, text string) api.Unit {
	t.Helper()
	l := ofText(t, globals+"fn main() { "+text+" }")
	return l.Units[l.Main]
}

// number is a checked number.
func number(at int, n int64, typ int) api.Expr {
	return api.Expr{Op: api.ENum, At: at, N: n, Type: typ}
}

// P9.1: the chapter's examples.
func TestP91Examples(t *testing.T) {
	l := ofText(t, "fn main() { while (1) { sleep; } }")
	one := []api.Expr{number(19, 1, api.W32)}
	wantTold(t, "a loop", l, api.List{Units: []api.Unit{{Name: "main", Vector: -1, Steps: []api.Step{
		{Op: api.StepIf, Line: 1, Var: -1, Addr: -1, E: one, Next: 1, Else: 2},
		{Op: api.StepSleep, Line: 1, Var: -1, Addr: -1, Next: 0, Else: -1},
		{Op: api.StepEnd, Line: 1, Var: -1, Addr: -1, Next: -1, Else: -1},
	}}}})
	l = ofText(t, "fn main() { if (1) { halt; } else { } critical { } }")
	wantTold(t, "a choice", ways(l.Units[0].Steps), "If>1|2 Halt>- Enter>3 Leave>4 End>-")
	l = ofText(t, "fn f(x: w16): w16 { var y: w16 = x; return y; } fn main() { }")
	wantTold(t, "a function", l, api.List{Main: 1, Units: []api.Unit{
		{
			Name: "f", Vector: -1, Params: 1, Result: api.W16,
			Locals: []api.Local{{Name: "x", Type: api.W16, From: 0, To: 3}, {Name: "y", Type: api.W16, From: 1, To: 3}},
			Steps: []api.Step{
				{Op: api.StepSet, Line: 1, Var: 0 + 1, Addr: -1, Type: api.W16, E: []api.Expr{{Op: api.ELocal, At: 33, Name: "x", Type: api.W16}}, Next: 1, Else: -1},
				{Op: api.StepReturn, Line: 1, Var: -1, Addr: -1, E: []api.Expr{{Op: api.ELocal, At: 43, Name: "y", Type: api.W16, Ref: 1}}, Next: -1, Else: -1},
				{Op: api.StepEnd, Line: 1, Var: -1, Addr: -1, Next: -1, Else: -1},
			},
		},
		{Name: "main", Vector: -1, Steps: []api.Step{{Op: api.StepEnd, Line: 1, Var: -1, Addr: -1, Next: -1, Else: -1}}},
	}})
}

// P9.1: where steps go on: behind each other, in and behind blocks, and at their ends.
func TestP91Ways(t *testing.T) {
	for text, want := range map[string]string{
		"":       "End>-",
		"sleep;": "Sleep>1 End>-",
		"n = 1; a[0] = 2; s.p = 3; f(); n = g(1, 2); in n = gpio.in; out gpio.out = 4; sleep; var z: w16 = 5;": "Set>1 Set>2 Set>3 Call>4 Call>5 In>6 Out>7 Sleep>8 Set>9 End>-",
		// Blocks that are empty, or are not there.
		"if (1) { }": "If>1|1 End>-", "if (1) { } else { }": "If>1|1 End>-", "while (1) { }": "If>0|1 End>-", "critical { }": "Enter>1 Leave>2 End>-",
		"if (1) { sleep; }": "If>1|2 Sleep>2 End>-", "if (1) { sleep; } else { }": "If>1|2 Sleep>2 End>-", "if (1) { } else { sleep; }": "If>2|1 Sleep>2 End>-",
		"if (1) { sleep; } else { halt; }": "If>1|2 Sleep>3 Halt>- End>-", "while (1) { sleep; }": "If>1|2 Sleep>0 End>-", "critical { sleep; }": "Enter>1 Sleep>2 Leave>3 End>-",
		"if (1) { } sleep;": "If>1|1 Sleep>2 End>-", "if (1) { } else { } sleep;": "If>1|1 Sleep>2 End>-", "while (1) { } sleep;": "If>0|1 Sleep>2 End>-", "critical { } sleep;": "Enter>1 Leave>2 Sleep>3 End>-",
		"if (1) { } if (2) { } while (3) { } if (4) { } else { }": "If>1|1 If>2|2 If>2|3 If>4|4 End>-", "while (1) { } while (2) { }": "If>0|1 If>1|2 End>-",
		// At the end of a while.
		"while (1) { if (2) { } }": "If>1|2 If>0|0 End>-", "while (1) { if (2) { } else { } } sleep;": "If>1|2 If>0|0 Sleep>3 End>-", "while (1) { while (2) { } }": "If>1|2 If>1|0 End>-",
		"while (1) { critical { } }": "If>1|3 Enter>2 Leave>0 End>-", "while (1) { if (2) { sleep; } }": "If>1|3 If>2|0 Sleep>0 End>-", "while (1) { if (2) { sleep; } else { f(); } }": "If>1|4 If>2|3 Sleep>0 Call>0 End>-",
		"while (1) { while (2) { sleep; } }": "If>1|3 If>2|0 Sleep>1 End>-", "while (1) { sleep; while (2) { sleep; } n = 3; }": "If>1|5 Sleep>2 If>3|4 Sleep>2 Set>0 End>-",
		// At the end of a critical.
		"critical { if (1) { } }": "Enter>1 If>2|2 Leave>3 End>-", "critical { if (1) { sleep; } else { } }": "Enter>1 If>2|3 Sleep>3 Leave>4 End>-", "critical { while (1) { } }": "Enter>1 If>1|2 Leave>3 End>-",
		"critical { critical { } }": "Enter>1 Enter>2 Leave>3 Leave>4 End>-", "critical { critical { sleep; } sleep; } sleep;": "Enter>1 Enter>2 Sleep>3 Leave>4 Sleep>5 Leave>6 Sleep>7 End>-",
		"critical { while (1) { if (2) { halt; } } }": "Enter>1 If>2|4 If>3|1 Halt>- Leave>5 End>-",
		// At the end of an if's blocks.
		"if (1) { if (2) { } else { } } else { while (3) { } } sleep;":                                      "If>1|2 If>3|3 If>2|3 Sleep>4 End>-",
		"if (1) { if (2) { sleep; } else { f(); } } else { if (3) { n = 1; } } n = 2;":                      "If>1|4 If>2|3 Sleep>6 Call>6 If>5|6 Set>6 Set>7 End>-",
		"if (1) { while (2) { sleep; } } else { critical { } } halt;":                                       "If>1|3 If>2|5 Sleep>1 Enter>4 Leave>5 Halt>- End>-",
		"if (1) { } else { if (2) { } else { if (3) { } else { sleep; } } }":                                "If>4|1 If>4|2 If>4|3 Sleep>4 End>-",
		"while (1) { if (2) { } else { if (3) { } else { sleep; } } }":                                      "If>1|4 If>0|2 If>0|3 Sleep>0 End>-",
		"while (1) { if (2) { if (3) { critical { while (4) { if (5) { } else { sleep; } } } } } }":         "If>1|8 If>2|0 If>3|0 Enter>4 If>5|7 If>4|6 Sleep>4 Leave>0 End>-",
		"if (1) { if (2) { if (3) { sleep; } } } if (4) { } else { if (5) { sleep; } sleep; } while (6) {}": "If>1|4 If>2|4 If>3|4 Sleep>4 If>8|5 If>6|7 Sleep>7 Sleep>8 If>8|9 End>-",
		// Behind halt and return.
		"halt; sleep;": "Halt>- Sleep>2 End>-", "return; n = 1;": "Return>- Set>2 End>-", "if (1) { halt; } sleep;": "If>1|2 Halt>- Sleep>3 End>-", "if (1) { return; n = 2; } sleep;": "If>1|3 Return>- Set>3 Sleep>4 End>-",
		"if (1) { sleep; } else { return; } halt;": "If>1|2 Sleep>3 Return>- Halt>- End>-", "while (1) { halt; sleep; }": "If>1|3 Halt>- Sleep>0 End>-", "while (1) { return; }": "If>1|2 Return>- End>-",
		"critical { halt; }": "Enter>1 Halt>- Leave>3 End>-", "critical { halt; if (1) { } }": "Enter>1 Halt>- If>3|3 Leave>4 End>-", "halt; while (1) { } return;": "Halt>- If>1|2 Return>- End>-",
		"return; return;": "Return>- Return>- End>-", "halt; if (1) { return; } else { halt; }": "Halt>- If>2|3 Return>- Halt>- End>-",
	} {
		u := bodyOf(t, text)
		wantTold(t, text, ways(u.Steps), want)
		wantTold(t, text+" folded", ways(listed(t, text, folded(checked(t, globals+"fn main() { "+text+" }"))).Units[2].Steps), ways(u.Steps))
	}
}

// P9.1: a step's line is its statement's; of StepLeave and StepEnd the closing brace's.
func TestP91Lines(t *testing.T) {
	for text, want := range map[string]string{
		"fn main() {\n}": "2", "fn main()\n{ sleep;\n\nn\n=\n1;\n\n} var n: w16;": "2 4 8", "\n\nfn main() { }": "3", "fn main() { sleep; }\n\n": "1 1",
		"fn main() {\ncritical {\n}\n}": "2 3 4", "fn main() {\ncritical\n{\nsleep;\n\n}\nsleep; }": "2 4 6 7 7", "fn main() {\nif (\n1\n)\n{\nhalt;\n}\nelse\n{\nsleep;\n}\n\n}": "2 6 10 13",
		"fn main() {\nwhile (1)\n{\n\n}\n}": "2 6", "fn main() { critical { critical {\nsleep; }\n} }": "1 1 2 2 3 3", "fn main() {\nif (1) {\ncritical {\n}\n} else {\ncritical {\n\n}\n}\n}": "2 3 4 6 8 10",
		"var n: w16;\nfn main() {\nvar x: w16\n= 1;\nn = x; x\n= n;\n}": "3 5 5 7", "fn main() {\nf(\n1\n); x = f(2); in\nx = gpio.in;\nout\ngpio.out = 3; return\n; }\nfn f(v: w16): w16 { return v; } var x: w16;": "2 4 4 6 7 8",
	} {
		l := ofText(t, text)
		wantTold(t, text, linesOf(l.Units[l.Main].Steps), want)
	}
}

// P9.1: locals are in scope from the step behind their var's one to behind the last step of their block; parameters in all.
func TestP91Locals(t *testing.T) {
	for text, want := range map[string]string{
		"": "", "sleep;": "", "var x: w16 = 1;": "x 1 to 2", "var x: w16 = 1; sleep;": "x 1 to 3", "sleep; var x: w16 = 1; var y: w32 = 2;": "x 2 to 4, y 3 to 4",
		// Of a block that is empty but for them.
		"if (1) { var x: w16 = 1; }": "x 2 to 2", "while (1) { var x: w16 = 1; }": "x 2 to 2", "if (1) { } else { var x: w16 = 1; } sleep;": "x 2 to 2", "critical { var x: w16 = 1; }": "x 2 to 3",
		"if (1) { var x: w16 = 1; } else { var x: w16 = 2; }": "x 2 to 2, x 3 to 3", "if (1) { var x: w16 = 1; var y: w16 = 2; } else { var z: w16 = 3; sleep; }": "x 2 to 3, y 3 to 3, z 4 to 5",
		// Blocks within blocks.
		"if (1) { var x: w16 = 1; sleep; } sleep;": "x 2 to 3", "while (1) { sleep; var x: w16 = 1; sleep; sleep; } sleep;": "x 3 to 5", "critical { var x: w16 = 1; sleep; } sleep;": "x 2 to 4",
		"critical { critical { var x: w16 = 1; } var y: w16 = 2; }": "x 3 to 4, y 5 to 6", "var x: w16 = 1; if (x) { var y: w16 = 2; while (y) { var z: w16 = 3; critical { var u: w16 = 4; } } } x = 5;": "x 1 to 10, y 3 to 8, z 5 to 8, u 7 to 8",
		"while (1) { if (2) { var x: w16 = 1; halt; } var y: w16 = 2; } var z: w16 = 3; return;":                                     "x 3 to 4, y 5 to 5, z 6 to 8",
		"halt; var x: w16 = 1; return; var y: w16 = 2;":                                                                              "x 2 to 5, y 4 to 5",
		"critical { if (1) { var x: w16 = 1; } else { var y: w16 = 2; } } var x: w16 = 3;":                                           "x 3 to 3, y 4 to 4, x 6 to 7",
		"if (1) { critical { var x: w16 = 1; } } else { var y: w16 = 2; critical { } } while (1) { if (2) { } var x: w16 = 3; }":     "x 3 to 4, y 5 to 7, x 10 to 10",
		"var x: w16 = 1; if (1) { var y: w16 = 2; if (1) { var z: w16 = 3; } sleep; } else { var y: w32 = 4; } var z: w16 = x; f();": "x 1 to 10, y 3 to 6, z 5 to 5, y 7 to 7, z 8 to 10",
	} {
		wantTold(t, text, localsOf(bodyOf(t, text).Locals), want)
		steps := len(bodyOf(t, text).Steps)
		l := ofText(t, globals+"fn main() { } fn h(p: w16, r: w32) { "+text+" }")
		params := fmt.Sprintf("p 0 to %d, r 0 to %d", steps, steps)
		if want != "" {
			params += ", "
		}
		wantTold(t, text, localsOf(l.Units[3].Locals), params+want)
	}
}

// P9.1: so many steps there may be, in all functions; ErrMany at the first one with which there are more.
func TestP91Many(t *testing.T) {
	sleeps := func(many int) string { return strings.Repeat("sleep;", many) }
	right := []string{
		"fn main() { " + sleeps(399) + " }", "fn f() { " + sleeps(398) + " } fn main() { }", "fn main() { } fn f() { " + sleeps(398) + " }", "on 3 priority 1 { " + sleeps(200) + " } fn main() { " + sleeps(198) + " }",
		"fn main() { critical { if (1) { " + sleeps(190) + " } else { while (1) { " + sleeps(205) + " } } } }", "fn main() { } fn f() { " + sleeps(100) + " } fn g() { " + sleeps(295) + "halt; } fn h() { }",
	}
	for _, text := range right {
		l := ofText(t, text)
		steps := 0
		for _, u := range l.Units {
			steps += len(u.Steps)
		}
		wantTold(t, text, steps, api.MaxSteps)
	}
	for _, marked := range []string{
		"`fn main() { " + sleeps(400) + " }", "`fn main() { " + sleeps(401) + " }", "`fn f() { " + sleeps(400) + " } fn main() { }", "fn main() { } `fn f() { " + sleeps(399) + " }", "fn f() { " + sleeps(399) + " } `fn main() { }",
		"`fn f() { " + sleeps(400) + " } fn main() { " + sleeps(400) + " }", "`fn main() { " + sleeps(500) + " } fn f() { " + sleeps(400) + " }", "fn main() { } fn f() { } `fn g() { " + sleeps(400) + " } fn h() { " + sleeps(900) + " }",
		"fn main() { " + sleeps(200) + " } `fn f() { " + sleeps(199) + " }", "fn main() { " + sleeps(200) + " } `on 5 priority 1 { " + sleeps(199) + " }", "fn main() { " + sleeps(200) + " } fn f() { " + sleeps(197) + " } `fn g() { halt; } fn h() { }",
		"`fn main() { critical { if (1) { " + sleeps(191) + " } else { while (1) { " + sleeps(205) + " } } } }", "`fn main() { while (1) { } critical { } " + sleeps(397) + " }", "`on 0 priority 7 { " + sleeps(400) + " } fn main() { }",
		"fn main() { " + sleeps(399) + " } `fn f() { }", "fn main() { " + sleeps(399) + " } `on 1 priority 1 { } fn f() { }",
	} {
		text := strings.Replace(marked, "`", "", 1)
		wantMany(t, text, checked(t, text), strings.Index(marked, "`"))
		wantMany(t, text, folded(checked(t, text)), strings.Index(marked, "`"))
	}
}
