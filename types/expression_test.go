package types_test

import (
	"strings"
	"testing"

	"plover/api"
	"plover/types"
)

// places16 are statements in which a number is asked for a w16, at the @; none has another fault.
func places16() []string {
	return []string{
		"x = @;", "v = @;", "a[0] = @;", "s.p = @;", "var z: w16 = @;", "f(@, 1);", "x = f(@, y);", "k(@, 1);", "x = -@;", "x = ~@;", "x = @ + 1;", "x = 1 + @;", "x = 2 * (3 - @);",
		"x = @ << 1;", "x = 1 << @;", "x = x << @;", "x = x >> -@;", "x = @ >> y;", "x = x + @;", "x = @ & s.p;", "y = w32(x | @);", "x = a[1] ^ @;", "x = !(x % @);", "x = !(v / ~@);",
		"x = w16(x - @);", "x = x < @;", "x = @ >= v;", "x = x == -(1 + @);", "x = (@ | 1) != a[y];", "if (x + @) { }", "while (v < @) { }", "out gpio.out = x - @;", "a[x + @] = 1;",
		"x = x << y << @;", "x = (1 << @) + x;", "x = !y + @;", "x = w16(y) + @;", "x = (y < 1) == @;", "return w32(a[3] - @);", "b[v * @] = 2;", "b[0] = b[x & @];",
	}
}

// places32 are statements in which a number is asked for a w32, at the @; none has another fault.
func places32() []string {
	return []string{
		"y = @;", "w = @;", "b[0] = @;", "s.q = @;", "var z: w32 = @;", "f(1, @);", "y = g(@);", "k(1, @);", "return @;", "y = -@;", "y = ~@;", "y = @ + 1;", "y = 1 + @;", "y = 2 * (3 - @);",
		"y = @ << 1;", "y = @ << x;", "y = y << @;", "y = 1 << @;", "y = y >> -@;", "y = y + @;", "y = @ & s.q;", "x = w16(y | @);", "x = w16(@);", "y = w32(@);", "x = w16(-@);", "x = !@;", "x = !-@;",
		"x = !(1 + @);", "x = y < @;", "x = @ >= w;", "x = 1 == @;", "x = @ != 2;", "x = 1 < (2 | @);", "x = (1 << @) > y;", "if (@) { }", "if (-@) { }", "while (@) { }", "while (1 == @) { }",
		"out gpio.out = @;", "out t0.comp = 1 + @;", "a[@] = 1;", "b[-@] = 1;", "a[1 << @] = 1;", "x = a[@];", "y = b[2 * @];", "x = a[a[@]];", "x = x + a[@];", "x = x - w16(@);", "x = x * !@;",
		"y = w32(x) + @;", "x = a[y + @];", "y = y << x << @;", "x = w16(1 + 2 + @);",
	}
}

// numberOf answers the number at that place in statements, with its bits.
func numberOf(t *testing.T, body []api.Stmt, at int) string {
	for _, s := range body {
		for _, e := range everyExpression(s.E) {
			if e.At == at {
				return typed(e)
			}
		}
	}
	t.Errorf("no number at %d", at)
	return ""
}

// everyExpression answers expressions, and those in them.
func everyExpression(list []api.Expr) []api.Expr {
	var all []api.Expr
	for _, e := range list {
		all = append(all, e)
		all = append(all, everyExpression(e.Args)...)
	}
	return all
}

// P6.1: a number that takes w16 is 65535 at most; above 32767 it is 65536 less: wherever it stands.
func TestP61Numbers16(t *testing.T) {
	for _, place := range places16() {
		at := len(programAhead) + strings.Index(place, "@")
		for number, want := range map[string]string{
			"0": "0:16", "1": "1:16", "32767": "32767:16", "32768": "-32768:16", "32769": "-32767:16", "65535": "-1:16", "65534": "-2:16", "0xFFFF": "-1:16", "0x7fff": "32767:16",
		} {
			n := checked(t, programAhead+strings.Replace(place, "@", number, 1)+" }")
			if got := numberOf(t, n.Prog.Funcs[4].Body, at); got != want {
				t.Errorf("%s in %s: %s, want %s", number, place, got, want)
			}
		}
		for _, number := range []string{"65536", "65537", "70000", "0x10000", "2147483647", "2147483648", "4294967295"} {
			wantBodyMarked(t, strings.Replace(place, "@", "`"+number, 1), api.ErrNumber)
		}
	}
}

// P6.1: one that takes w32 may be any; above 2^31 - 1 it is 2^32 less.
func TestP61Numbers32(t *testing.T) {
	for _, place := range places32() {
		at := len(programAhead) + strings.Index(place, "@")
		for number, want := range map[string]string{
			"0": "0:32", "1": "1:32", "32767": "32767:32", "32768": "32768:32", "65535": "65535:32", "65536": "65536:32", "70000": "70000:32", "2147483647": "2147483647:32",
			"2147483648": "-2147483648:32", "2147483649": "-2147483647:32", "4294967295": "-1:32", "4294967294": "-2:32", "0xFFFFFFFF": "-1:32", "0x80000000": "-2147483648:32",
		} {
			n := checked(t, programAhead+strings.Replace(place, "@", number, 1)+" }")
			if got := numberOf(t, n.Prog.Funcs[4].Body, at); got != want {
				t.Errorf("%s in %s: %s, want %s", number, place, got, want)
			}
		}
	}
}

// values are values, their places marked, with the bits of the type that they have by themselves; 0 if they have none.
func values() map[string]int {
	return map[string]int{
		"`x": 16, "`y": 32, "`v": 16, "`w": 32, "`a[y]": 16, "`b[x]": 32, "`s.p": 16, "`s.q": 32, "`7": 0, "1 `+ 2": 0, "1 `<< y": 0, "1 `>> x": 0, "x `<< y": 16, "y `>> x": 32,
		"`-x": 16, "`~y": 32, "`-7": 0, "`~(1 & 2)": 0, "`!x": 16, "`!y": 16, "`!7": 16, "x `< x": 16, "y `<= y": 16, "1 `!= 2": 16, "`w16(x)": 16, "`w16(y)": 16, "`w16(7)": 16,
		"`w32(x)": 32, "`w32(y)": 32, "`w32(7)": 32, "1 `+ x": 16, "x `- 1": 16, "y `* 1": 32, "1 `/ y": 32, "`-(1 | x)": 16, "`~(y ^ 1)": 32, "(1 << 2) `+ y": 32, "(1 - 2) `<< y": 0,
		"1 `% (2 / (3 + x))": 16, "1 + 2 `+ 3": 0, "`-(1 + y << x)": 32, "1 `+ 2 * y": 32, "x `& y >> 1 << x == 9": 16, "1 `| y & 3": 32, "1 `^ (y < 3)": 16, "`b[x < 1]": 32,
	}
}

func unmarked(text string) string {
	return strings.Replace(text, "`", "", 1)
}

// P6.1: the type that each kind of expression has by itself: where it may stand, and where ErrType is told, at it.
func TestP61OwnTypes(t *testing.T) {
	setting := map[string]int{
		"x = @;": 16, "y = @;": 32, "a[1] = @;": 16, "b[1] = @;": 32, "s.p = @;": 16, "s.q = @;": 32, "var z: w16 = @;": 16, "var z: w32 = @;": 32, "f(@, 1);": 16, "f(1, @);": 32, "x = f(1, @);": 32, "k(@, y);": 16,
		"return @;": 32, "if (1) { v = @; }": 16, "w = @;": 32, "v = @;": 16,
	}
	for value, bits := range values() {
		for place, needed := range setting {
			if bits != 0 && bits != needed {
				wantBodyMarked(t, strings.Replace(place, "@", value, 1), api.ErrType)
			} else {
				checked(t, programAhead+strings.Replace(place, "@", unmarked(value), 1)+" }")
			}
		}
		for _, either := range []string{"if (@) { }", "while (@) { }", "out gpio.out = @;", "x = a[@];", "b[@] = 1;", "x = !(@);", "x = w16(@);", "y = w32(@);", "x = x << (@);", "y = y >> (@);"} {
			checked(t, programAhead+strings.Replace(either, "@", unmarked(value), 1)+" }")
		}
	}
}

// P6.1: each operator of two between values of each type: its own type, and ErrType at it, if its operands have two types; of shifts either may stand on the right.
func TestP61OperatorsOfTwo(t *testing.T) {
	bits := map[string]int{"x": 16, "y": 32, "9": 0, "(1 << y)": 0, "s.p": 16, "b[2]": 32}
	for op := api.EMul; op <= api.EOr; op++ {
		for left, l := range bits {
			for right, r := range bits {
				marked := left + " `" + marks()[op] + " " + right
				own := l
				if own == 0 && op != api.EShl && op != api.EShr {
					own = r
				}
				if l != 0 && r != 0 && l != r && op != api.EShl && op != api.EShr {
					wantTwoTypes(t, marked)
					continue
				}
				if op >= api.ELt && op <= api.ENe {
					own = 16
				}
				wantOwnType(t, marked, own)
			}
		}
	}
}

// wantTwoTypes fails unless ErrType is told at an operator, wherever it stands.
func wantTwoTypes(t *testing.T, marked string) {
	t.Helper()
	for _, place := range []string{"x = @;", "y = @;", "if (@) { }", "a[@] = 1;", "x = w16(@);", "y = (@) + 1;", "x = 1 << (@);", "f(1, @);", "return -(@);", "in x = gpio.in; out gpio.out = @;"} {
		wantBodyMarked(t, strings.Replace(place, "@", marked, 1), api.ErrType)
	}
}

// wantOwnType fails unless just those targets can be set to an expression that may have its type.
func wantOwnType(t *testing.T, marked string, bits int) {
	t.Helper()
	for target, needed := range map[string]int{"x": 16, "y": 32} {
		if bits != 0 && bits != needed {
			wantBodyMarked(t, target+" = "+marked+";", api.ErrType)
			continue
		}
		n := checked(t, programAhead+target+" = "+unmarked(marked)+"; }")
		want := map[int]int{16: api.W16, 32: api.W32}[needed]
		if got := n.Prog.Funcs[4].Body[0].E[1].Type; got != want {
			t.Errorf("%s = %s: type %d, want %d", target, marked, got, want)
		}
	}
}

// wantOperands fails unless an operator, at the @, has these types where either may be; 40000:16 stands for -25536:16.
func wantOperands(t *testing.T, op int, rows map[string]string) {
	t.Helper()
	for text, want := range rows {
		text, want = strings.ReplaceAll(text, "@", marks()[op]), strings.ReplaceAll(want, "@", marks()[op])
		wantTyped(t, "out gpio.out = "+text+";", strings.ReplaceAll(want, "40000:16", "-25536:16"))
	}
}

// P6.1: what the operands of * / % + - & ^ | are asked for: the operator's type.
func TestP61AskedByArithmetic(t *testing.T) {
	for _, op := range []int{api.EMul, api.EDiv, api.ERem, api.EAdd, api.ESub, api.EAnd, api.EXor, api.EOr} {
		wantOperands(t, op, map[string]string{
			"x @ 40000": "(x:16 @:16 40000:16)", "40000 @ x": "(40000:16 @:16 x:16)", "y @ 40000": "(y:32 @:32 40000:32)", "40000 @ y": "(40000:32 @:32 y:32)", "40000 @ 40000": "(40000:32 @:32 40000:32)",
			"-40000 @ x": "(-:16(40000:16) @:16 x:16)", "x @ (1 << 40000)": "(x:16 @:16 (1:16 <<:16 40000:16))", "(40000 | 2) @ (x << 40000)": "((40000:16 |:16 2:16) @:16 (x:16 <<:16 40000:16))",
			"(40000 @ 1) @ (2 @ x)": "((40000:16 @:16 1:16) @:16 (2:16 @:16 x:16))", "(40000 @ 1) @ (2 @ y)": "((40000:32 @:32 1:32) @:32 (2:32 @:32 y:32))", "(1 < 40000) @ 40000": "((1:32 <:16 40000:32) @:16 40000:16)",
			"w32(x) @ 40000": "(w32:32(x:16) @:32 40000:32)", "x @ w16(40000)": "(x:16 @:16 w16:16(40000:32))",
		})
	}
}

// P6.1: what the operands of comparisons are asked for: the type that one of them has by itself, else W32.
func TestP61AskedByComparisons(t *testing.T) {
	for op := api.ELt; op <= api.ENe; op++ {
		wantOperands(t, op, map[string]string{
			"x @ 40000": "(x:16 @:16 40000:16)", "40000 @ x": "(40000:16 @:16 x:16)", "y @ 40000": "(y:32 @:16 40000:32)", "40000 @ y": "(40000:32 @:16 y:32)", "40000 @ 40000": "(40000:32 @:16 40000:32)",
			"x + (40000 @ 40000)": "(x:16 +:16 (40000:32 @:16 40000:32))", "(40000 @ y) + 40000": "((40000:32 @:16 y:32) +:16 40000:16)", "-40000 @ (1 << 2)": "(-:32(40000:32) @:16 (1:32 <<:32 2:32))",
			"(40000 | 2) @ (x << 40000)": "((40000:16 |:16 2:16) @:16 (x:16 <<:16 40000:16))", "(40000 << x) @ 40000": "((40000:32 <<:32 x:16) @:16 40000:32)", "(1 @ 2) @ 40000": "((1:32 @:16 2:32) @:16 40000:16)",
			"(y @ y) @ (x @ 40000)": "((y:32 @:16 y:32) @:16 (x:16 @:16 40000:16))", "!40000 @ 40000": "(!:16(40000:32) @:16 40000:16)",
		})
	}
}

// P6.1: what the operands of shifts are asked for: the type that the left one has by itself, or else the shift takes.
func TestP61AskedByShifts(t *testing.T) {
	for _, op := range []int{api.EShl, api.EShr} {
		wantOperands(t, op, map[string]string{
			"x @ 40000": "(x:16 @:16 40000:16)", "40000 @ x": "(40000:32 @:32 x:16)", "y @ 40000": "(y:32 @:32 40000:32)", "40000 @ y": "(40000:32 @:32 y:32)", "40000 @ 40000": "(40000:32 @:32 40000:32)",
			"x + (40000 @ 40000)": "(x:16 +:16 (40000:16 @:16 40000:16))", "x + (40000 @ y)": "(x:16 +:16 (40000:16 @:16 y:32))", "y + (40000 @ x)": "(y:32 +:32 (40000:32 @:32 x:16))",
			"x @ y @ 40000": "((x:16 @:16 y:32) @:16 40000:16)", "y @ x @ 40000": "((y:32 @:32 x:16) @:32 40000:32)", "40000 @ x @ y": "((40000:32 @:32 x:16) @:32 y:32)", "x @ (40000 @ y)": "(x:16 @:16 (40000:16 @:16 y:32))",
			"(40000 @ 40000) == x": "((40000:16 @:16 40000:16) ==:16 x:16)", "x @ (y < 40000)": "(x:16 @:16 (y:32 <:16 40000:32))", "-(40000 @ x) @ !y": "(-:32((40000:32 @:32 x:16)) @:32 !:16(y:32))",
		})
	}
}

// P6.1: of operators of one value: what they ask for, and their type.
func TestP61OperatorsOfOne(t *testing.T) {
	for text, want := range map[string]string{
		"-x": "-:16(x:16)", "-y": "-:32(y:32)", "-40000": "-:32(40000:32)", "~x": "~:16(x:16)", "~y": "~:32(y:32)", "~40000": "~:32(40000:32)",
		"!x": "!:16(x:16)", "!y": "!:16(y:32)", "!40000": "!:16(40000:32)", "w16(x)": "w16:16(x:16)", "w16(y)": "w16:16(y:32)", "w16(40000)": "w16:16(40000:32)",
		"w32(x)": "w32:32(x:16)", "w32(y)": "w32:32(y:32)", "w32(40000)": "w32:32(40000:32)", "-(x - 40000)": "-:16((x:16 -:16 -25536:16))", "-~-40000": "-:32(~:32(-:32(40000:32)))",
		"x + -40000": "(x:16 +:16 -:16(40000:16))", "x + !40000": "(x:16 +:16 !:16(40000:32))", "x + w16(40000)": "(x:16 +:16 w16:16(40000:32))", "y + w32(40000)": "(y:32 +:32 w32:32(40000:32))",
		"!-40000": "!:16(-:32(40000:32))", "w16(-(x | 40000))": "w16:16(-:16((x:16 |:16 40000:16)))", "-w16(40000)": "-:16(w16:16(40000:32))", "x < ~40000": "(x:16 <:16 ~:16(40000:16))",
		"a[40000]": "a:16[40000:32]", "x + a[40000]": "(x:16 +:16 a:16[40000:32])", "-b[-40000]": "-:32(b:32[-:32(40000:32)])", "!!!x": "!:16(!:16(!:16(x:16)))", "--x": "-:16(-:16(x:16))",
	} {
		wantTyped(t, "out gpio.out = "+text+";", strings.ReplaceAll(want, "40000:16", "-25536:16"))
	}
}

// wantRow fails unless the row of operators that a statement of k has ends in just that fault, at the `; or, without one, has those types.
func wantRow(t *testing.T, text string, code api.Errno, many, typ int) {
	t.Helper()
	ahead, behind, _ := strings.Cut(programAhead+text+"}", "`")
	c, err := types.Check(resolved(t, ahead+behind))
	if code != api.OK {
		if f, is := err.(*api.Fault); !is || *f != (api.Fault{Code: code, At: len(ahead)}) {
			t.Errorf("%.300q: %v (%+v), want %v At %d", text, err, err, code, len(ahead))
		}
		return
	}
	if err != nil {
		t.Fatalf("%.300q: %v (%+v), want no fault", text, err, err)
	}
	e := c.Prog.Funcs[4].Body[0].E[0]
	for ; len(e.Args) > 0 && many > 0; e, many = e.Args[0], many-1 {
		if e.Type != typ || e.Args[1].Type != typ {
			t.Fatalf("%.300q: types %d, %d, want %d", text, e.Type, e.Args[1].Type, typ)
		}
	}
	if many != 1 || e.Type != typ {
		t.Errorf("%.300q: %d operands more than there are, type %d, want %d", text, many-1, e.Type, typ)
	}
}

// P6.1: rows of operators, the longest ones that a text may have, and the deepest nesting.
func TestP61Rows(t *testing.T) {
	many := (api.MaxText - len(programAhead) - 30) / 2
	row := strings.Repeat("1+", many-1)
	wantRow(t, "out gpio.out="+row+"1;", api.OK, many, api.W32)
	wantRow(t, "out gpio.out="+row+"x;", api.OK, many, api.W16)
	wantRow(t, "out gpio.out="+row+"y;", api.OK, many, api.W32)
	wantRow(t, "out gpio.out=x+"+row+"1;", api.OK, many+1, api.W16)
	wantRow(t, "out gpio.out=x+"+row+"1`+y;", api.ErrType, 0, 0)
	wantRow(t, "x="+row+"`65536;", api.ErrNumber, 0, 0)
	wantRow(t, "x="+row+"1`+y;", api.ErrType, 0, 0)
	wantRow(t, "x=`65536+"+row+"x;", api.ErrNumber, 0, 0)
	wantRow(t, "y="+row+"1`+x;", api.ErrType, 0, 0)
	deep := strings.Repeat("-", api.MaxNest)
	wantTyped(t, "x = "+deep+"40000;", "x:16 ; "+strings.Repeat("-:16(", api.MaxNest)+"-25536:16"+strings.Repeat(")", api.MaxNest))
	wantBodyMarked(t, "x = "+deep+"`65536;", api.ErrNumber)
}
