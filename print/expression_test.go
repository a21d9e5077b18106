package print_test

import (
	"math"
	"strings"
	"testing"

	"plover/api"
	"plover/print"
)

// wantExpr fails unless the expression has that text.
func wantExpr(t *testing.T, e api.Expr, want string) {
	t.Helper()
	before := told(e)
	if got := print.Expr(e); got != want {
		t.Errorf("%+v: got %q, want %q", e, got, want)
	}
	if told(e) != before {
		t.Errorf("printing changed an expression:\n%s\n%s", before, told(e))
	}
}

// mark is an operator of two values: its kind, its bytes; those of a lower level bind closer.
type mark struct {
	kind, level int
	text        string
}

// marks are the operators of two values, in the order of chapter 3.
func marks() []mark {
	var all []mark
	kind := api.EMul
	for level, row := range []string{"* / %", "+ -", "<< >>", "< <= > >= == !=", "&", "^", "|"} {
		for _, text := range strings.Fields(row) {
			all = append(all, mark{kind, level, text})
			kind++
		}
	}
	return all
}

// between puts parentheses, if that is so.
func between(is bool, text string) string {
	if is {
		return "(" + text + ")"
	}
	return text
}

// P4.1: each kind of expression but the operators of two.
func TestP41Expressions(t *testing.T) {
	x := name("x")
	elem := api.Expr{Op: api.EElem, Name: "h", Args: exprs(with(api.EOr, x, num(1)))}
	field := api.Expr{Op: api.EField, Name: "s", Field: "p"}
	for _, c := range []struct {
		e    api.Expr
		want string
	}{
		{num(0), "0"}, {num(7), "7"}, {num(1<<32 - 1), "4294967295"},
		{num(-1), "-1"}, {num(math.MaxInt64), "9223372036854775807"}, {num(math.MinInt64), "-9223372036854775808"},
		{x, "x"}, {name("_Long1"), "_Long1"}, {name(""), ""},
		{elem, "h[x | 1]"}, {field, "s.p"},
		{with(api.ENeg, x), "-x"}, {with(api.ENot, x), "~x"}, {with(api.EZero, x), "!x"},
		{with(api.EW16, x), "w16(x)"}, {with(api.EW32, x), "w32(x)"},
		{with(api.EW16, elem), "w16(h[x | 1])"}, {with(api.EW32, field), "w32(s.p)"},
		{with(api.EParen, x), "(x)"}, {with(api.EParen, with(api.EParen, elem)), "((h[x | 1]))"},
		{api.Expr{Op: api.EElem, Name: "h", Args: exprs(elem)}, "h[h[x | 1]]"},
	} {
		wantExpr(t, c.e, c.want)
	}
}

// P4.1: numbers below 0 are no operators.
func TestP41NumbersBelow0(t *testing.T) {
	m := num(-5)
	wantExpr(t, with(api.ENeg, m), "--5")
	wantExpr(t, with(api.ESub, m, m), "-5 - -5")
	wantExpr(t, with(api.EMul, with(api.EAdd, m, num(1)), m), "(-5 + 1) * -5")
	wantExpr(t, api.Expr{Op: api.EElem, Name: "h", Args: exprs(m)}, "h[-5]")
}

// P4.1: each operator of two alone.
func TestP41OperatorsOfTwo(t *testing.T) {
	all := marks()
	if len(all) != api.EOr-api.EMul+1 || all[len(all)-1].kind != api.EOr {
		t.Fatal(all)
	}
	for _, m := range all {
		wantExpr(t, with(m.kind, name("a"), num(2)), "a "+m.text+" 2")
	}
}

// P4.1: each operator of two beside each one, on its left and on its right, with and without parentheses of its own.
func TestP41OperatorsBesideEachOther(t *testing.T) {
	a, b, c := name("a"), name("b"), name("c")
	for _, in := range marks() {
		inner, text := with(in.kind, a, b), "a "+in.text+" b"
		paren := with(api.EParen, inner)
		for _, out := range marks() {
			wantExpr(t, with(out.kind, inner, c), between(out.level < in.level, text)+" "+out.text+" c")
			wantExpr(t, with(out.kind, c, inner), "c "+out.text+" "+between(in.level >= out.level, text))
			wantExpr(t, with(out.kind, paren, c), "("+text+") "+out.text+" c")
			wantExpr(t, with(out.kind, c, paren), "c "+out.text+" ("+text+")")
			wantExpr(t, with(out.kind, inner, inner), between(out.level < in.level, text)+" "+out.text+" "+between(in.level >= out.level, text))
			wantExpr(t, with(out.kind, with(api.EParen, paren), c), "(("+text+")) "+out.text+" c")
		}
	}
}

// P4.1: some rows of more, as the chapter says by words.
func TestP41Rows(t *testing.T) {
	for _, c := range []struct{ text, want string }{
		{"((a*b)+(c*d))", "a * b + c * d"},
		{"a-b-c", "a - b - c"},
		{"(a-b)-(c-d)", "a - b - (c - d)"},
		{"a*(b/c)", "a * (b / c)"},
		{"a<<(b+c)", "a << b + c"},
		{"(a<<b)+c", "(a << b) + c"},
		{"(a<b)==(c<d)", "a < b == (c < d)"},
		{"a==(b&c)", "a == (b & c)"},
		{"(a==b)&(c!=d)", "a == b & c != d"},
		{"a^(b&c)^(d|e)", "a ^ b & c ^ (d | e)"},
		{"(a|(b|c))", "a | (b | c)"},
		{"w16((a+b))*h[(a+b)]", "w16(a + b) * h[a + b]"},
		{"-(-(a))*(-b)", "--a * -b"},
		{"(((a)))+((1))", "a + 1"},
	} {
		p := parsed(t, "fn f() { x = "+c.text+"; }")
		wantExpr(t, p.Funcs[0].Body[0].E[0], c.want)
	}
}

// P4.1: operators of one value before each kind of operand, one behind the other, and before and beside operators of two.
func TestP41OperatorsOfOne(t *testing.T) {
	operators := []struct {
		kind int
		text string
	}{{api.ENeg, "-"}, {api.ENot, "~"}, {api.EZero, "!"}}
	for _, o := range operators {
		for want, e := range map[string]api.Expr{
			"5": num(5), "-5": num(-5), "x": name("x"),
			"h[?]":     {Op: api.EElem, Name: "h"},
			"s.p":      {Op: api.EField, Name: "s", Field: "p"},
			"w16(x)":   with(api.EW16, name("x")),
			"w32(a*b)": with(api.EW32, name("a*b")),
			"(x)":      with(api.EParen, name("x")),
			"?":        with(api.ELocal),
		} {
			wantExpr(t, with(o.kind, e), o.text+want)
		}
		for _, p := range operators {
			wantExpr(t, with(o.kind, with(p.kind, name("x"))), o.text+p.text+"x")
			wantExpr(t, with(o.kind, with(p.kind, with(api.EAdd, name("x"), num(1)))), o.text+p.text+"(x + 1)")
		}
		for _, m := range marks() {
			two, text := with(m.kind, name("a"), name("b")), "a "+m.text+" b"
			wantExpr(t, with(o.kind, two), o.text+"("+text+")")
			wantExpr(t, with(o.kind, with(api.EParen, two)), o.text+"("+text+")")
			wantExpr(t, with(m.kind, with(o.kind, name("a")), name("b")), o.text+text)
			wantExpr(t, with(m.kind, name("a"), with(o.kind, name("b"))), "a "+m.text+" "+o.text+"b")
			wantExpr(t, with(m.kind, with(o.kind, two), with(o.kind, two)), o.text+"("+text+") "+m.text+" "+o.text+"("+text+")")
		}
	}
}

// P4.1: operators of two stand without parentheses in brackets, and in the parentheses of w16 and w32.
func TestP41OperandsWithinMarks(t *testing.T) {
	for _, m := range marks() {
		two, text := with(m.kind, name("a"), name("b")), "a "+m.text+" b"
		wantExpr(t, api.Expr{Op: api.EElem, Name: "h", Args: exprs(two)}, "h["+text+"]")
		wantExpr(t, with(api.EW16, two), "w16("+text+")")
		wantExpr(t, with(api.EW32, two), "w32("+text+")")
		wantExpr(t, with(api.EParen, two), "("+text+")")
	}
}

// P4.1: expressions of a kind that has no text (those that are resolved, too), alone and as operands.
func TestP41OtherExpressions(t *testing.T) {
	for _, op := range []int{api.ELocal, api.EWord, api.ECell, -1, api.LastExpr + 1, 1000, math.MaxInt, math.MinInt} {
		other := api.Expr{Op: op, Name: "x", Field: "p", N: 3, Args: exprs(num(1), num(2))}
		wantExpr(t, other, "?")
		wantExpr(t, with(api.EMul, other, other), "? * ?")
		wantExpr(t, with(api.EAdd, with(api.EMul, other, num(1)), with(api.EOr, num(1), other)), "? * 1 + (1 | ?)")
		wantExpr(t, with(api.EW16, other), "w16(?)")
	}
}

// P4.1: operands that are lacking.
func TestP41LackingOperands(t *testing.T) {
	for _, none := range [][]api.Expr{nil, {}} {
		for op, want := range map[int]string{
			api.ENeg: "-?", api.ENot: "~?", api.EZero: "!?", api.EW16: "w16(?)", api.EW32: "w32(?)", api.EParen: "(?)",
			api.ENum: "0", api.EName: "", api.EField: ".",
		} {
			wantExpr(t, api.Expr{Op: op, Args: none}, want)
		}
		wantExpr(t, api.Expr{Op: api.EElem, Name: "h", Args: none}, "h[?]")
		for _, m := range marks() {
			wantExpr(t, api.Expr{Op: m.kind, Args: none}, "? "+m.text+" ?")
			wantExpr(t, with(m.kind, name("a")), "a "+m.text+" ?")
			wantExpr(t, with(api.ENeg, api.Expr{Op: m.kind, Args: none}), "-(? "+m.text+" ?)")
		}
	}
}
