package fold_test

import (
	"fmt"
	"math"
	"reflect"
	"strings"
	"testing"

	"plover/api"
	"plover/fold"
	"plover/parse"
	"plover/scope"
	"plover/types"
)

// num is a number of a type, at a place.
func num(typ, at int, n int64) api.Expr {
	return api.Expr{Op: api.ENum, At: at, Type: typ, N: n}
}

// with is an operator of a type, at a place.
func with(op, typ, at int, args ...api.Expr) api.Expr {
	return api.Expr{Op: op, At: at, Type: typ, Args: args}
}

// local is a local of a type, at a place.
func local(typ, at int) api.Expr {
	return api.Expr{Op: api.ELocal, At: at, Name: "v", Type: typ, Ref: 3}
}

// wantFold fails unless an expression is folded to that one, stays as it was, and stays when it is folded again.
func wantFold(t *testing.T, e, want api.Expr) {
	t.Helper()
	before := told(e)
	got := fold.Fold(e)
	wantTold(t, "Fold of "+before, got, want)
	wantTold(t, "what was handed in", told(e), before)
	wantTold(t, "folded again: "+told(want), fold.Fold(got), want)
}

// checked answers the program of a text, resolved and checked.
func checked(t *testing.T, text string) api.Prog {
	t.Helper()
	p, err := parse.Parse(text)
	if err != nil {
		t.Fatalf("%q: %v (%+v)", text, err, err)
	}
	n, err := scope.Resolve(p)
	if err != nil {
		t.Fatalf("%q: %v (%+v)", text, err, err)
	}
	n, err = types.Check(n)
	if err != nil {
		t.Fatalf("%q: %v (%+v)", text, err, err)
	}
	return n.Prog
}

// expressionAhead stands ahead of expressions: x, v, a, s.p are w16, y, w, b, s.q w32.
const expressionAhead = "struct S { p: w16; q: w32; } var x: w16; var y: w32; var a: w16[3]; var b: w32[5]; var s: S; fn main() { } fn k(v: w16, w: w32) { out gpio.out = "

// ofText answers an expression of a text, checked.
func ofText(t *testing.T, text string) api.Expr {
	t.Helper()
	return checked(t, expressionAhead+text+"; }").Funcs[1].Body[0].E[0]
}

// marks are the marks of operators, by their kinds.
func marks() []string {
	return []string{
		api.ENeg: "-", api.ENot: "~", api.EZero: "!", api.EW16: "w16", api.EW32: "w32",
		api.EMul: "*", api.EDiv: "/", api.ERem: "%", api.EAdd: "+", api.ESub: "-", api.EShl: "<<", api.EShr: ">>", api.ELt: "<", api.ELe: "<=",
		api.EGt: ">", api.EGe: ">=", api.EEq: "==", api.ENe: "!=", api.EAnd: "&", api.EXor: "^", api.EOr: "|",
	}
}

// typed writes an expression with the bits of the type of each part: behind a name, a number, or an operator's mark.
func typed(e api.Expr) string {
	bits := map[int]string{api.NoType: ":none", api.W16: ":16", api.W32: ":32"}[e.Type]
	switch {
	case e.Op == api.ENum:
		return fmt.Sprint(e.N) + bits
	case e.Op == api.ELocal, e.Op == api.EWord && e.Field == "":
		return e.Name + bits
	case e.Op == api.EWord:
		return e.Name + "." + e.Field + bits
	case e.Op == api.ECell:
		return e.Name + bits + "[" + typed(e.Args[0]) + "]"
	case len(e.Args) == 1:
		return marks()[e.Op] + bits + "(" + typed(e.Args[0]) + ")"
	}
	return "(" + typed(e.Args[0]) + " " + marks()[e.Op] + bits + " " + typed(e.Args[1]) + ")"
}

// textRows are expressions' texts, and what these are when they are folded.
func textRows() map[string]string {
	return map[string]string{
		// Numbers, and what hangs on variables, stay.
		"7": "7:32", "x": "x:16", "y": "y:32", "v": "v:16", "s.q": "s.q:32", "a[1]": "a:16[1:32]", "a[x]": "a:16[x:16]", "x + 1": "(x:16 +:16 1:16)", "1 + x": "(1:16 +:16 x:16)", "-x": "-:16(x:16)", "!y": "!:16(y:32)", "w32(x)": "w32:32(x:16)",
		"4000000000": "-294967296:32", "x + 40000": "(x:16 +:16 -25536:16)", "x * 0": "(x:16 *:16 0:16)", "x - x": "(x:16 -:16 x:16)", "0 & y": "(0:32 &:32 y:32)", "x / 1": "(x:16 /:16 1:16)", "x + 2 + 3": "((x:16 +:16 2:16) +:16 3:16)", "0 / x": "(0:16 /:16 x:16)",
		// Numbers alone.
		"1 + 2": "3:32", "2 * 3 + 4": "10:32", "2 * (3 + 4)": "14:32", "10 - 3 - 2": "5:32", "10 - (3 - 2)": "9:32", "7 / 2": "3:32", "-7 / 2": "-3:32", "7 % -2": "1:32", "-7 % 2": "-1:32", "1 << 4": "16:32", "-5 >> 1": "-3:32", "1 << 33": "2:32", "1 << -1": "-2147483648:32",
		"12 & 10": "8:32", "12 ^ 10": "6:32", "12 | 10": "14:32", "-5": "-5:32", "- -5": "5:32", "~5": "-6:32", "!5": "0:16", "!0": "1:16", "!!7": "1:16", "w16(70000)": "4464:16", "w32(70000)": "70000:32", "w32(w16(40000))": "-25536:32", "w16(w32(w16(40000)))": "-25536:16",
		"2147483647 + 1": "-2147483648:32", "-2147483648": "-2147483648:32", "65536 * 65536": "0:32", "-(w16(32768))": "-32768:16", "w16(32767) + 1": "-32768:16", "w16(181) * 182": "-32594:16", "w16(1) << 15": "-32768:16", "w16(1) << 16": "1:16", "w16(1) << 17": "2:16",
		"-2147483648 / -1": "-2147483648:32", "w16(32768) / -1": "-32768:16", "-2147483648 % -1": "0:32", "w16(32768) % -1": "0:16", "~w16(32768)": "32767:16",
		"1 < 2": "1:16", "2 < 2": "0:16", "2 <= 2": "1:16", "3 > 2": "1:16", "3 >= 4": "0:16", "3 == 3": "1:16", "3 != 3": "0:16", "70000 < 4464": "0:16", "70000 == 4464": "0:16", "w16(70000) == 4464": "1:16", "4294967295 < 0": "1:16", "(1 < 2) + 40000": "-25535:16", "w16(65535) < 0": "1:16",
		"1 + 2 * 3 - 4 / 2 % 5 << 1 & 255 ^ 3 | 64": "73:32", "-(-(-(1)))": "-1:32", "!(1 == 2) + !(3 - 3)": "2:16", "((1 << 2) << 3) << 30": "0:32",
		// Numbers alone, beside what hangs on variables.
		"x + 2 * 3": "(x:16 +:16 6:16)", "2 * 3 + x": "(6:16 +:16 x:16)", "2 + 3 + y": "(5:32 +:32 y:32)", "y - (3 - 4)": "(y:32 -:32 -1:32)", "x << (1 + 2)": "(x:16 <<:16 3:16)", "(1 << 20) >> x": "(1048576:32 >>:32 x:16)", "-(x + -1)": "-:16((x:16 +:16 -1:16))",
		"32767 + 1 + x": "(-32768:16 +:16 x:16)", "y + (32767 + 1)": "(y:32 +:32 32768:32)", "x < 2 * 40000": "(x:16 <:16 14464:16)", "y < 2 * 40000": "(y:32 <:16 80000:32)", "w16(y + 3 * 3)": "w16:16((y:32 +:32 9:32))", "x + w16(70000)": "(x:16 +:16 4464:16)", "(2 == 2) + x": "(1:16 +:16 x:16)",
		"!(x & 1 + 1)": "!:16((x:16 &:16 2:16))", "(1 + 2) * x + (3 + 4) * v": "((3:16 *:16 x:16) +:16 (7:16 *:16 v:16))", "x * (1 + 2) * (3 + 4)": "((x:16 *:16 3:16) *:16 7:16)", "x + (1 + (2 + (3 + v)))": "(x:16 +:16 (1:16 +:16 (2:16 +:16 (3:16 +:16 v:16))))",
		// Cells: the index is folded, the cell stays, and so does what hangs on it.
		"a[1 + 1]": "a:16[2:32]", "a[-1]": "a:16[-1:32]", "a[5 * 5]": "a:16[25:32]", "a[x + 1 * 1]": "a:16[(x:16 +:16 1:16)]", "b[a[3 - 1]]": "b:32[a:16[2:32]]", "a[0] + a[1 - 1]": "(a:16[0:32] +:16 a:16[0:32])", "-a[!3]": "-:16(a:16[0:16])", "b[w16(65536)] / (2 - 2)": "(b:32[0:16] /:32 0:32)",
		"a[1 / 0]": "a:16[(1:32 /:32 0:32)]", "1 + a[1 + 1] * (1 + 1)": "(1:16 +:16 (a:16[2:32] *:16 2:16))", "b[b[b[1 + 1] + 1 + 1]]": "b:32[b:32[((b:32[2:32] +:32 1:32) +:32 1:32)]]",
		// Divisions by 0 stay, and so does what hangs on them.
		"1 / 0": "(1:32 /:32 0:32)", "1 % 0": "(1:32 %:32 0:32)", "0 / 0": "(0:32 /:32 0:32)", "1 / (2 - 2)": "(1:32 /:32 0:32)", "(1 + 2) % !5": "(3:16 %:16 0:16)", "1 / 0 + 2 * 3": "((1:32 /:32 0:32) +:32 6:32)", "2 * 3 + 1 % 0": "(6:32 +:32 (1:32 %:32 0:32))", "-(1 / 0)": "-:32((1:32 /:32 0:32))",
		"!(1 / 0)": "!:16((1:32 /:32 0:32))", "0 * (1 / 0)": "(0:32 *:32 (1:32 /:32 0:32))", "1 / (1 / 0)": "(1:32 /:32 (1:32 /:32 0:32))", "x / 0": "(x:16 /:16 0:16)", "x / (1 - 1)": "(x:16 /:16 0:16)", "x % (0 << 5)": "(x:16 %:16 0:16)", "1 / 0 == 1 / 0": "((1:32 /:32 0:32) ==:16 (1:32 /:32 0:32))",
		"(4 - 2) / (65536 * 65536)": "(2:32 /:32 0:32)", "w16(9) / w16(65536)": "(9:16 /:16 0:16)", "w16((3 - 1) / 0)": "w16:16((2:32 /:32 0:32))", "0 / 5": "0:32", "0 % 5": "0:32",
	}
}

// P7.2: expressions of texts, folded.
func TestP72Texts(t *testing.T) {
	for text, want := range textRows() {
		e := ofText(t, text)
		before := told(e)
		got := fold.Fold(e)
		if typed(got) != want {
			t.Errorf("%s\n got %s\nwant %s", text, typed(got), want)
		}
		wantTold(t, text+", handed in", told(e), before)
		wantTold(t, text+", folded again", fold.Fold(got), got)
		wantTold(t, text+", reckoned", got, reckonedFold(e))
	}
}

// P7.2: the chapter's examples.
func TestP72Examples(t *testing.T) {
	x := api.Expr{Op: api.EWord, At: 4, Name: "x", Type: api.W16}
	wantFold(t, with(api.EAdd, api.W16, 6, x, with(api.EMul, api.W16, 10, num(api.W16, 8, 2), num(api.W16, 12, 3))), with(api.EAdd, api.W16, 6, x, num(api.W16, 10, 6)))
	division := with(api.EDiv, api.W32, 2, num(api.W32, 0, 1), num(api.W32, 4, 0))
	wantFold(t, division, division)
}

// P7.2: each number is wrapped to its type, of both types, and of what is neither; all else of it stays.
func TestP72Numbers(t *testing.T) {
	for _, typ := range allTypes() {
		for _, n := range []int64{0, 1, -1, 32767, 32768, -32768, -32769, 65535, 65536, 70000, 1<<31 - 1, 1 << 31, -1 << 31, -1<<31 - 1, 1<<32 - 1, 1 << 32, 1 << 40, math.MaxInt64, math.MinInt64} {
			wantFold(t, num(typ, 9, n), num(typ, 9, int64(reckonedWrap(typ, n))))
			e := api.Expr{Op: api.ENum, At: 5, Name: "n", Field: "f", N: n, Type: typ, Ref: 7}
			want := e
			want.N = int64(reckonedWrap(typ, n))
			wantFold(t, e, want)
			wantFold(t, with(api.EAdd, typ, 1, local(typ, 2), num(typ, 3, n)), with(api.EAdd, typ, 1, local(typ, 2), num(typ, 3, want.N)))
			wantFold(t, with(api.ENum, typ, 1, num(typ, 3, n)), with(api.ENum, typ, 1, num(typ, 3, want.N)))
		}
	}
	// What is no number keeps its N, whatever it is.
	for op := api.EName; op <= api.LastExpr; op++ {
		e := api.Expr{Op: op, Type: api.W16, N: 1 << 40, Args: []api.Expr{local(api.W16, 1), local(api.W16, 2)}}
		wantFold(t, e, e)
	}
}

// P7.2: numbers that a type has not are wrapped ahead of what the operator makes of them.
func TestP72FromWithin(t *testing.T) {
	wantFold(t, with(api.EZero, api.W16, 1, num(api.W16, 2, 65536)), num(api.W16, 1, 1))
	wantFold(t, with(api.EZero, api.W16, 1, num(api.W32, 2, 65536)), num(api.W16, 1, 0))
	wantFold(t, with(api.EZero, api.W16, 1, num(api.W32, 2, 1<<32)), num(api.W16, 1, 1))
	wantFold(t, with(api.EDiv, api.W16, 1, num(api.W16, 2, 70000), num(api.W16, 3, 65539)), num(api.W16, 1, 1488))
	division := with(api.EDiv, api.W16, 1, num(api.W16, 2, 9), num(api.W16, 3, 65536))
	wantFold(t, division, with(api.EDiv, api.W16, 1, num(api.W16, 2, 9), num(api.W16, 3, 0)))
	wantFold(t, with(api.EShr, api.W16, 1, num(api.W16, 2, 40000), num(api.W16, 3, 1)), num(api.W16, 1, -12768))
	wantFold(t, with(api.ELt, api.W16, 1, num(api.W16, 2, 40000), num(api.W16, 3, 1)), num(api.W16, 1, 1))
	wantFold(t, with(api.EEq, api.W16, 1, num(api.W32, 2, 1<<32+5), num(api.W32, 3, 5)), num(api.W16, 1, 1))
	wantFold(t, with(api.EW32, api.W32, 1, num(api.W16, 2, 40000)), num(api.W32, 1, -25536))
	wantFold(t, with(api.EMul, api.NoType, 1, num(api.Free, 2, 1<<40+3), num(api.NoType, 3, -2)), num(api.NoType, 1, -6))
}

// P7.2: the number stands at the operator's place, has its Type, and nothing else of it, nor of its values.
func TestP72MadeNumber(t *testing.T) {
	a := api.Expr{Op: api.ENum, At: 11, Name: "a", Field: "b", N: 6, Type: api.W16, Ref: 4, Args: []api.Expr{num(api.W16, 12, 13)}}
	for _, typ := range allTypes() {
		for op := api.ENeg; op <= api.EOr; op++ {
			e := api.Expr{Op: op, At: 77, Name: "c", Field: "d", N: 5, Type: typ, Ref: 9, Args: []api.Expr{a, a}}
			if op < api.EMul {
				e.Args = e.Args[:1]
			}
			got := fold.Fold(e)
			if want := (api.Expr{Op: api.ENum, At: 77, Type: typ, N: got.N}); !reflect.DeepEqual(got, want) {
				t.Errorf("%+v: %#v, want %#v", e, got, want)
			}
			wantTold(t, told(e), got, reckonedFold(e))
		}
	}
}

// P7.2: of operators of two the type is that of the first value; of one their own.
func TestP72WhichType(t *testing.T) {
	for _, row := range []struct {
		op, typ, first, second int
		a, b, want             int64
	}{
		{api.EAdd, api.W32, api.W16, api.W16, 32767, 1, -32768}, {api.EAdd, api.W32, api.W16, api.W32, 32767, 1, -32768}, {api.EAdd, api.W32, api.W32, api.W16, 32767, 1, 32768}, {api.EAdd, api.NoType, api.W16, api.W32, 32767, 1, -32768},
		{api.EMul, api.NoType, api.NoType, api.W16, 256, 256, 65536}, {api.ESub, api.Free, api.W16, api.NoType, -32768, 1, 32767}, {api.EDiv, api.W32, api.W16, api.W16, -32768, -1, -32768}, {api.EDiv, api.W32, api.W32, api.W16, -32768, -1, 32768},
		{api.EShl, api.W32, api.W32, api.W16, 1, 20, 1 << 20}, {api.EShl, api.W16, api.W16, api.W32, 1, 20, 16}, {api.EShl, api.W32, api.W16, api.W32, 1, 15, -32768}, {api.EShr, api.W32, api.W16, api.W32, -5, 17, -3}, {api.EShr, api.W32, api.W32, api.W16, -5, 17, -1},
		{api.EShl, api.W32, api.NoType, api.W16, 1, 33, 2}, {api.ELt, api.W16, api.W32, api.W32, 70000, 4464, 0}, {api.EAnd, api.W32, api.W16, api.W32, -1, 70000, 70000},
	} {
		wantFold(t, with(row.op, row.typ, 7, num(row.first, 1, row.a), num(row.second, 9, row.b)), num(row.typ, 7, row.want))
	}
	wantFold(t, with(api.ENeg, api.W16, 7, num(api.W32, 8, 70000)), num(api.W16, 7, -4464))
	wantFold(t, with(api.ENeg, api.W32, 7, num(api.W16, 8, -32768)), num(api.W32, 7, 32768))
	wantFold(t, with(api.ENot, api.W16, 7, num(api.W32, 8, 70000)), num(api.W16, 7, -4465))
	wantFold(t, with(api.ENot, api.NoType, 7, num(api.W32, 8, 70000)), num(api.NoType, 7, -70001))
	wantFold(t, with(api.EW16, api.W32, 7, num(api.W32, 8, 70000)), num(api.W32, 7, 4464))
	wantFold(t, with(api.EW32, api.NoType, 7, num(api.W32, 8, 70000)), num(api.NoType, 7, 70000))
}

// P7.2, P7.3: where an operator's type is another one than that of its values, the number is one of its type, too: so it stays.
func TestP73MadeNumberStays(t *testing.T) {
	wantFold(t, with(api.EAdd, api.W16, 7, num(api.W32, 1, 40000), num(api.W32, 9, 30000)), num(api.W16, 7, 4464))
	wantFold(t, with(api.EW32, api.W16, 7, num(api.W32, 8, 70000)), num(api.W16, 7, 4464))
	wantFold(t, with(api.EOr, api.W16, 7, num(api.W16, 8, 0), num(api.W32, 9, 32768)), num(api.W16, 7, -32768))
}

// values are so many numbers.
func values(many int) []api.Expr {
	var all []api.Expr
	for i := range many {
		all = append(all, num(api.W32, 20+i, int64(i+2)))
	}
	return all
}

// P7.2: operators with another number of values stay, and so does what is no operator; what is in them is folded.
func TestP72OtherNumbersOfValues(t *testing.T) {
	sum := with(api.EAdd, api.W32, 3, num(api.W32, 1, 4), num(api.W32, 5, 5))
	nine := num(api.W32, 3, 9)
	for _, op := range allOperators() {
		should := -1
		if op >= api.ENeg && op <= api.EW32 {
			should = 1
		} else if op >= api.EMul && op <= api.EOr {
			should = 2
		}
		for many := range 6 {
			e := with(op, api.W32, 2, values(many)...)
			got := fold.Fold(e)
			if isMade := got.Op == api.ENum && op != api.ENum; isMade != (many == should) {
				t.Errorf("operator %d of %d values: %+v", op, many, got)
			}
			if many == should {
				continue
			}
			wantFold(t, e, e)
			if many > 0 {
				e.Args[many-1] = sum
				want := with(op, api.W32, 2, append(values(many-1), nine)...)
				wantFold(t, e, want)
				wantFold(t, with(api.EMul, api.W32, 1, sum, e), folded2(want, nine))
			}
		}
	}
}

// folded2 is a number times what stands, if that is no number.
func folded2(stands, number api.Expr) api.Expr {
	if stands.Op == api.ENum {
		return num(api.W32, 1, int64(reckonedWrap(api.W32, number.N*int64(reckonedWrap(api.W32, stands.N)))))
	}
	return with(api.EMul, api.W32, 1, number, stands)
}

// P7.2: an operator with a value that is no number stays, whichever it is, and of whatever kind.
func TestP72NotNumbersAlone(t *testing.T) {
	for _, kind := range allOperators() {
		if kind == api.ENum || kind >= api.ENeg && kind <= api.EOr {
			continue
		}
		other := api.Expr{Op: kind, At: 8, Name: "x", Type: api.W32, N: 3, Args: values(1)}
		for op := api.ENeg; op <= api.EW32; op++ {
			wantFold(t, with(op, api.W32, 2, other), with(op, api.W32, 2, other))
		}
		for op := api.EMul; op <= api.EOr; op++ {
			for _, e := range []api.Expr{with(op, api.W32, 2, other, values(1)[0]), with(op, api.W32, 2, values(1)[0], other), with(op, api.W32, 2, other, other)} {
				wantFold(t, e, e)
			}
		}
	}
}

// P7.2: every operator of two, of numbers at all ends, as Bin says; every operator of one as Un does.
func TestP72AllOperators(t *testing.T) {
	for _, typ := range []int{api.W16, api.W32, api.NoType} {
		for _, a := range ends() {
			x := int64(fold.Wrap(typ, int64(a)))
			for op := api.ENeg; op <= api.EW32; op++ {
				wantFold(t, with(op, typ, 4, num(typ, 5, x)), num(typ, 4, int64(fold.Wrap(typ, int64(fold.Un(op, typ, int32(x)))))))
			}
			for i, b := range ends() {
				if i%4 != int(uint32(a)%4) && b != 0 && b != -1 {
					continue
				}
				y := int64(fold.Wrap(typ, int64(b)))
				for op := api.EMul; op <= api.EOr; op++ {
					e := with(op, typ, 4, num(typ, 3, x), num(typ, 5, y))
					want := e
					if v, is := fold.Bin(op, typ, int32(x), int32(y)); is {
						want = num(typ, 4, int64(v))
					}
					if got := fold.Fold(e); told(got) != told(want) {
						t.Fatalf("%s: %s, want %s", typed(e), typed(got), typed(want))
					}
				}
			}
		}
	}
}

// P7.2: expressions that were not checked have no types: their numbers are as those of w32.
func TestP72Unchecked(t *testing.T) {
	for text, want := range map[string]string{
		"1 + 2": "3:none", "40000 + 40000": "80000:none", "4000000000": "-294967296:none", "2147483647 + 1": "-2147483648:none", "!3": "0:none", "w16(70000)": "4464:none", "1 << 33": "2:none", "1 / 0": "(1:none /:none 0:none)",
	} {
		p, err := parse.Parse("fn main() { out gpio.out = " + text + "; }")
		if err != nil {
			t.Fatal(err)
		}
		if got := typed(fold.Fold(p.Funcs[0].Body[0].E[0])); got != want {
			t.Errorf("%s: %s, want %s", text, got, want)
		}
	}
	p, err := parse.Parse("fn main() { out gpio.out = a[1 + 1] + s.p + (2 - x * (3 * 3)); }")
	if err != nil {
		t.Fatal(err)
	}
	e := p.Funcs[0].Body[0].E[0]
	got := fold.Fold(e)
	wantTold(t, "names", got, reckonedFold(e))
	if told(got) == told(e) || strings.Count(told(got), "Op:0 ") != 3 {
		t.Error(told(got))
	}
}
