package types_test

import (
	"strings"
	"testing"

	"plover/api"
)

// faultRows are statements, each with one fault, or with several of which that is the first one, at the `.
func faultRows() map[string]api.Errno {
	return map[string]api.Errno{
		// What sets something: the faults of the target (an index), those of the value, then the value's type.
		"x = `y;": api.ErrType, "y = `x;": api.ErrType, "v = `w;": api.ErrType, "w = `v;": api.ErrType, "a[1] = `y;": api.ErrType, "b[1] = `x;": api.ErrType, "s.p = `s.q;": api.ErrType, "s.q = `s.p;": api.ErrType,
		"var z: w16 = `y;": api.ErrType, "var z: w32 = `x;": api.ErrType, "x = y `+ 65536;": api.ErrType, "x = `65536;": api.ErrNumber, "x = 1 + `65536;": api.ErrNumber, "x = `65536 + 65536;": api.ErrNumber,
		"x = x + `65536 + y;": api.ErrNumber, "x = x `+ y + 65536;": api.ErrType, "x = (x `+ y) + (y + x);": api.ErrType, "x = x + (y `+ x);": api.ErrType, "x = x `+ (y + y);": api.ErrType, "x = -(x `+ y);": api.ErrType,
		"y = x `+ y;": api.ErrType, "y = x `+ 1;": api.ErrType, "y = x + `65536;": api.ErrNumber, "y = `65536 + x;": api.ErrNumber, "y = 65536 `< y;": api.ErrType, "y = `65536 < x;": api.ErrNumber,
		"a[x `+ y] = y;": api.ErrType, "a[x + `65536] = 65536;": api.ErrNumber, "a[1] = `65536;": api.ErrNumber, "a[65536] = `65536;": api.ErrNumber, "a[y `* x] = x + y;": api.ErrType, "b[a[x `- y]] = 1;": api.ErrType,
		"b[a[1]] = `a[x];": api.ErrType, "x = a[x `- y];": api.ErrType, "x = `b[x];": api.ErrType, "x = b[x `- y];": api.ErrType, "x = a[x - `65536] + y;": api.ErrNumber, "x = y `+ a[x];": api.ErrType,
		"x = x << `65536;": api.ErrNumber, "x = `65536 << x;": api.ErrNumber, "x = x << (x `+ y);": api.ErrType, "x = (y `+ x) << (x + y);": api.ErrType, "x = y `<< 1;": api.ErrType, "y = x `>> y;": api.ErrType,
		"x = !(x `+ y);": api.ErrType, "x = w16(x `+ y);": api.ErrType, "x = w32(x `+ y);": api.ErrType, "x = `w32(x);": api.ErrType, "y = `w16(y);": api.ErrType, "y = `!y;": api.ErrType, "y = `-x;": api.ErrType, "x = `~y;": api.ErrType,
		// out, if, while: those of the expression.
		"out gpio.out = x `+ y;": api.ErrType, "out gpio.out = x + `65536;": api.ErrNumber, "if (x `+ y) { x = y; }": api.ErrType, "if (x < `65536) { }": api.ErrNumber, "while (y `== x) { x = y; }": api.ErrType, "while (`65536 != x) { }": api.ErrNumber,
		"if (1) { x = `y; } else { y = x; }": api.ErrType, "if (1) { } else { y = `x; }": api.ErrType, "if (x) { x = 1; } else { if (y `< x) { } }": api.ErrType, "while (1) { x = 1; y = `x; y = x; } y = x;": api.ErrType,
		"critical { x = `y; }": api.ErrType, "critical { critical { y = 1; x = `65536; } }": api.ErrNumber, "x = 1; y = 1; x = `y; y = x;": api.ErrType,
		// Calls: how many arguments; each argument's faults, and its type; the target.
		"`f();": api.ErrCount, "`f(1);": api.ErrCount, "`f(1, 2, 3);": api.ErrCount, "`h(1);": api.ErrCount, "`g();": api.ErrCount, "`f(x + y);": api.ErrCount, "`x = f(1);": api.ErrCount, "`y = f(1, 2, 3, 4, 5, 6, 7);": api.ErrCount, "`x = h(1);": api.ErrCount,
		"`y = f(y);": api.ErrCount, "f(`y, 1);": api.ErrType, "f(1, `x);": api.ErrType, "f(`65536, 1);": api.ErrNumber, "f(`65536, x);": api.ErrNumber, "f(`y, x);": api.ErrType, "f(`y, x + y);": api.ErrType, "f(x `+ y, x);": api.ErrType,
		"f(1, x `+ y);": api.ErrType, "f(1, x + `65536);": api.ErrNumber, "f(1, x `+ 65535);": api.ErrType, "g(`x);": api.ErrType, "x = f(`y, 1);": api.ErrType, "y = f(`y, 1);": api.ErrType, "`y = f(1, 1);": api.ErrType, "`x = g(1);": api.ErrType,
		"`w = f(1, 1);": api.ErrType, "`v = k(1, 1);": api.ErrType, "y = f(1, `x);": api.ErrType, "`x = h();": api.ErrValue, "`y = h();": api.ErrValue, "v = g(x `& y);": api.ErrType,
		// Returns: whether there is a value, its faults, and its type.
		"`return;": api.ErrValue, "return `x;": api.ErrType, "return x `+ y;": api.ErrType, "return x + `65536;": api.ErrNumber, "return x `+ 1;": api.ErrType, "return `!y;": api.ErrType, "if (x) { `return; }": api.ErrValue, "while (1) { return `v; }": api.ErrType,
		"return y `< y;": api.ErrType, "return `-x;": api.ErrType, "return 1; `return;": api.ErrValue,
	}
}

// P6.1: each kind of fault, with its place: alone, behind others, ahead of others, and within others.
func TestP61Faults(t *testing.T) {
	for text, code := range faultRows() {
		wantBodyMarked(t, text, code)
		wantBodyMarked(t, "x = v; sleep; "+text+" y = x; x = 65536;", code)
		wantBodyMarked(t, "if (1) { "+text+" }", code)
		wantBodyMarked(t, "if (x) { } else { "+text+" }", code)
		wantBodyMarked(t, "if (x) { x = 2; } else { while (y) { y = 65536; "+text+" } x = y; } y = x;", code)
		if !strings.Contains(text, "return") {
			wantBodyMarked(t, "critical { "+text+" }", code)
		}
	}
}

// P6.1: returns of functions, of handlers, and of main: ErrValue At the return.
func TestP61ReturnFaults(t *testing.T) {
	for text, code := range map[string]api.Errno{
		"fn main() { `return 1; }":                                            api.ErrValue,
		"fn main() { `return 65536; }":                                        api.ErrValue,
		"fn main() { while (1) { `return x; } }":                              api.ErrValue,
		"fn main() { `return x + y; }":                                        api.ErrValue,
		"on 0 priority 1 { `return 1; } fn main() { }":                        api.ErrValue,
		"fn main() { } on 7 priority 7 { if (x) { return; } `return x + y; }": api.ErrValue,
		"fn r() { `return x; } fn main() { }":                                 api.ErrValue,
		"fn r(z: w16) { return; `return z; } fn main() { }":                   api.ErrValue,
		"fn r(): w16 { `return; } fn main() { }":                              api.ErrValue,
		"fn r(): w32 { return 65536; `return; } fn main() { }":                api.ErrValue,
		"fn r(): w16 { return `65536; } fn main() { }":                        api.ErrNumber,
		"fn r(): w16 { return x; return `y; } fn main() { }":                  api.ErrType,
		"fn r(): w16 { return y `+ 1; } fn main() { }":                        api.ErrType,
		"fn r(): w32 { return y; return `x; } fn main() { }":                  api.ErrType,
		"fn r(): w32 { return y; return x `+ y; } fn main() { }":              api.ErrType,
		"fn r(): w32 { return x `<< 3; } fn main() { }":                       api.ErrType,
		"fn r(): w16 { return 0; } fn main() { `return y; }":                  api.ErrValue,
	} {
		wantMarked(t, "var x: w16; var y: w32; "+text, code)
	}
}

// P6.1: calls, however many parameters there are, and of what types: ErrCount At the statement, ErrType At the argument.
func TestP61Calls(t *testing.T) {
	kinds := []string{"w16", "w32"}
	names := map[string]string{"w16": "x", "w32": "y"}
	for many := range api.MaxParams + 1 {
		for sorts := range 1 << many {
			var params, right []string
			for i := range many {
				kind := kinds[sorts>>i&1]
				params = append(params, "p"+string(rune('0'+i))+": "+kind)
				right = append(right, names[kind])
			}
			program := "var x: w16; var y: w32; fn c(" + strings.Join(params, ", ") + ") { } fn main() { "
			checked(t, program+"c("+strings.Join(right, ", ")+"); }")
			wantMarked(t, program+"`c("+strings.Join(append([]string{"x + y"}, right...), ", ")+"); }", api.ErrCount)
			for i := range many {
				wantMarked(t, program+"`c("+strings.Join(append(append([]string{}, right[:i]...), right[i+1:]...), ", ")+"); }", api.ErrCount)
				wrong := append([]string{}, right...)
				wrong[i] = "`" + map[string]string{"x": "y", "y": "x"}[right[i]]
				for j := i + 1; j < many; j++ {
					wrong[j] = "x + y"
				}
				wantMarked(t, program+"c("+strings.Join(wrong, ", ")+"); }", api.ErrType)
			}
		}
	}
}

// P6.1: functions may stand ahead of, or behind, what calls them; and functions may call themselves.
func TestP61CalledAnywhere(t *testing.T) {
	const globals = "var x: w16; var y: w32; "
	for text, code := range map[string]api.Errno{
		"fn main() { x = c(1); } fn c(p: w16): w16 { return p; }":                                api.OK,
		"fn main() { `y = c(1); } fn c(p: w16): w16 { return p; }":                               api.ErrType,
		"fn main() { x = c(`65536); } fn c(p: w16): w16 { return p; }":                           api.ErrNumber,
		"fn main() { `x = c(1); } fn c(p: w16) { }":                                              api.ErrValue,
		"fn c(p: w16): w16 { p = c(p); return p; } fn main() { }":                                api.OK,
		"fn c(p: w16): w32 { `p = c(p); return p; } fn main() { }":                               api.ErrType,
		"on 3 priority 1 { y = c(x); } fn c(p: w16): w32 { return 70000; } fn main() { }":        api.OK,
		"on 3 priority 1 { y = c(`y); } fn c(p: w16): w32 { return 70000; } fn main() { }":       api.ErrType,
		"fn main() { } fn d(): w32 { return 1; } fn c(): w16 { return 1; } fn e() { `x = d(); }": api.ErrType,
		"fn main() { } fn d(): w32 { return 1; } fn c(): w16 { return 1; } fn e() { x = c(); }":  api.OK,
	} {
		if code == api.OK {
			checked(t, globals+text)
		} else {
			wantMarked(t, globals+text, code)
		}
	}
}

// P6.1: the first fault is told function by function, in order of the text.
func TestP61FirstFault(t *testing.T) {
	const globals = "var x: w16; var y: w32; "
	faults := map[string]api.Errno{"x = `y;": api.ErrType, "x = `65536;": api.ErrNumber, "`x = h();": api.ErrValue, "`h(1);": api.ErrCount, "`return 1;": api.ErrValue}
	for first, code := range faults {
		for second := range faults {
			second = unmarked(second)
			wantMarked(t, globals+"fn h() { "+first+" "+second+" } fn main() { }", code)
			wantMarked(t, globals+"fn h() { "+first+" } fn main() { "+second+" }", code)
			wantMarked(t, globals+"fn main() { "+first+" } fn h() { "+second+" }", code)
			wantMarked(t, globals+"on 5 priority 3 { "+first+" } fn main() { "+second+" } fn h() { "+second+" }", code)
			wantMarked(t, globals+"fn h() { } on 5 priority 3 { x = 1; } on 4 priority 3 { "+first+" } fn main() { "+second+" }", code)
			wantMarked(t, globals+"fn h() { } fn main() { if (1) { "+first+" } else { "+second+" } "+second+" }", code)
			wantMarked(t, globals+"fn h() { } fn main() { while (1) { sleep; } "+first+" while (1) { "+second+" } }", code)
		}
	}
}
