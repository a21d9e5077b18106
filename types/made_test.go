package types_test

import (
	"errors"
	"fmt"
	"slices"
	"strings"
	"testing"

	"plover/api"
	"plover/parse"
	"plover/scope"
	"plover/types"
)

// dice answers numbers below n, the same ones each time.
type dice uint64

func (d *dice) below(n int) int {
	*d = *d*6364136223846793005 + 1442695040888963407
	return int(uint64(*d) >> 33 % uint64(n))
}

func (d *dice) pick(from []string) string {
	return from[d.below(len(from))]
}

// rates tells how many of 1000 are wrong: types that are another one, numbers that are too great, calls with too many or too few arguments, values where there should be none, or none.
type rates struct {
	types, numbers, counts, values int
}

// signature is what is known of a function that can be called.
type signature struct {
	name   string
	params []string
	result string // w16, w32, or none
}

// writer writes texts of programs that can be resolved.
type writer struct {
	dice
	rates
	text     strings.Builder
	numbers  map[string][]string // globals, fields, and locals in scope, by their types
	arrays   map[string][]string
	funcs    []signature
	unit     signature
	vars     int
	critical int
}

// chance tells one of two; so many times of 1000 that it is so.
func (w *writer) chance(of1000 int) bool {
	return w.below(1000) < of1000
}

func (w *writer) put(all ...string) {
	for _, text := range all {
		w.text.WriteString(text)
		w.text.WriteString(" ")
	}
}

func (w *writer) typ() string {
	return w.pick([]string{"w16", "w32"})
}

// number writes a number that may have that type.
func (w *writer) number(typ string) {
	small := []string{"0", "1", "7", "300", "32767", "32768", "40000", "65535"}
	great := []string{"65536", "70000", "2147483647", "2147483648", "4000000000", "4294967295"}
	if typ == "w32" || w.chance(w.rates.numbers) {
		w.put(w.pick(append(small, great...)))
		return
	}
	w.put(w.pick(small))
}

// either writes an expression where either type may be.
func (w *writer) either(deep int) {
	w.expression(w.typ(), deep)
}

// expression writes one that has that type if it is asked for it, or now and then another one.
func (w *writer) expression(typ string, deep int) {
	if w.chance(w.types) {
		typ = w.typ()
	}
	which := w.below(11)
	if deep > 3 {
		which = w.below(4)
	}
	switch {
	case which < 2:
		w.number(typ)
	case which < 4:
		w.put(w.pick(w.numbers[typ]))
	case which == 4:
		w.put(w.pick(w.arrays[typ]), "[")
		w.either(deep + 1)
		w.put("]")
	case which == 5:
		w.put(w.pick([]string{"-", "~"}))
		w.within(typ, deep)
	case which == 6:
		w.put(typ)
		w.within(w.typ(), deep)
	case which == 7 && typ == "w16":
		w.truth(deep)
	case which == 8:
		w.shift(typ, deep)
	default:
		w.within(typ, deep)
		w.put(w.pick(strings.Fields("* / % + - & ^ |")))
		w.within(typ, deep)
	}
}

// within writes an expression between parentheses.
func (w *writer) within(typ string, deep int) {
	w.put("(")
	w.expression(typ, deep+1)
	w.put(")")
}

// truth writes a comparison, or a !.
func (w *writer) truth(deep int) {
	typ := w.typ()
	if w.below(3) == 0 {
		w.put("!")
		w.within(typ, deep)
		return
	}
	w.within(typ, deep)
	w.put(w.pick(strings.Fields("< <= > >= == !=")))
	w.within(typ, deep)
}

// shift writes a shift; on its right side either type may be, but a number that has none of its own must be small enough.
func (w *writer) shift(typ string, deep int) {
	w.within(typ, deep)
	w.put(w.pick([]string{"<<", ">>"}))
	if w.below(2) == 0 {
		w.put(w.pick(w.numbers[w.typ()]))
		return
	}
	w.within(typ, deep)
}

// block writes a block: what it declares is not in scope behind it.
func (w *writer) block(deep int) {
	before := map[string][]string{"w16": slices.Clone(w.numbers["w16"]), "w32": slices.Clone(w.numbers["w32"])}
	w.put("{")
	for range w.below(6) {
		w.statement(deep)
	}
	w.put("}")
	w.numbers = before
}

func (w *writer) statement(deep int) {
	typ := w.typ()
	switch w.below(8) {
	case 0:
		w.variable(typ)
	case 1, 2:
		w.put(w.pick(w.numbers[typ]), "=")
		w.expression(typ, 0)
		w.put(";")
	case 3:
		w.put(w.pick(w.arrays[typ]), "[")
		w.either(1)
		w.put("]", "=")
		w.expression(typ, 0)
		w.put(";")
	case 4, 5:
		w.call()
	case 6:
		w.alone()
	default:
		w.nested(deep)
	}
}

func (w *writer) variable(typ string) {
	if w.vars == api.MaxLocals {
		w.put("sleep", ";")
		return
	}
	w.vars++
	name := fmt.Sprint("v", w.vars)
	w.put("var", name, ":", typ, "=")
	w.expression(typ, 0)
	w.put(";")
	w.numbers[typ] = append(w.numbers[typ], name)
}

// plain answers names that stand for one value: no fields, which can't be set to what a call returns, or what is read in.
func plain(all []string) []string {
	return slices.DeleteFunc(slices.Clone(all), func(name string) bool { return strings.Contains(name, ".") })
}

func (w *writer) call() {
	f := w.funcs[w.below(len(w.funcs))]
	if w.chance(w.values) || f.result != "" && w.below(3) > 0 {
		typ := f.result
		if typ == "" || w.chance(w.types) {
			typ = w.typ()
		}
		w.put(w.pick(plain(w.numbers[typ])), "=")
	}
	w.put(f.name, "(")
	params := f.params
	if w.chance(w.counts) {
		params = append(slices.Clone(params), "w16")[w.below(2):]
	}
	for i, typ := range params {
		if i > 0 {
			w.put(",")
		}
		w.expression(typ, 1)
	}
	w.put(")", ";")
}

// alone writes a statement without others in it.
func (w *writer) alone() {
	switch w.below(6) {
	case 0:
		w.put("in", w.pick(plain(w.numbers[w.typ()])), "=", "gpio.in", ";")
	case 1:
		w.put("out", "t0.comp", "=")
		w.either(0)
		w.put(";")
	case 2, 3:
		w.giveBack()
	default:
		w.put(w.pick([]string{"sleep", "halt"}), ";")
	}
}

func (w *writer) giveBack() {
	if w.critical > 0 {
		w.put("sleep", ";")
		return
	}
	w.put("return")
	if w.unit.result != "" != w.chance(w.values) {
		typ := w.unit.result
		if typ == "" {
			typ = w.typ()
		}
		w.expression(typ, 0)
	}
	w.put(";")
}

// nested writes a statement with blocks.
func (w *writer) nested(deep int) {
	if deep > 2 {
		w.put("sleep", ";")
		return
	}
	switch w.below(4) {
	case 0, 1:
		w.put("if", "(")
		w.either(0)
		w.put(")")
		w.block(deep + 1)
		if w.below(2) == 0 {
			w.put("else")
			w.block(deep + 1)
		}
	case 2:
		w.put("while", "(")
		w.either(0)
		w.put(")")
		w.block(deep + 1)
	default:
		w.critical++
		w.put("critical")
		w.block(deep + 1)
		w.critical--
	}
}

// function writes a function, a handler, or main.
func (w *writer) function(f signature, head string) {
	w.unit, w.vars = f, 0
	before := w.numbers
	w.numbers = map[string][]string{"w16": slices.Clone(before["w16"]), "w32": slices.Clone(before["w32"])}
	var params []string
	for i, typ := range f.params {
		name := fmt.Sprint("p", i)
		params = append(params, name+": "+typ)
		w.numbers[typ] = append(w.numbers[typ], name)
	}
	if head == "" {
		head = "fn " + f.name + "(" + strings.Join(params, ", ") + ")"
		if f.result != "" {
			head += ": " + f.result
		}
	}
	w.put(head)
	w.block(0)
	w.numbers = before
}

func (w *writer) program() string {
	w.numbers = map[string][]string{"w16": {"x", "s.p"}, "w32": {"y", "s.q"}}
	w.arrays = map[string][]string{"w16": {"a"}, "w32": {"b"}}
	w.put("struct S { q: w32; p: w16; } var s: S; var b: w32[7]; var x: w16; var a: w16[3]; var y: w32;")
	for i := range w.below(5) {
		typ, name := w.typ(), fmt.Sprint("n", i)
		w.numbers[typ] = append(w.numbers[typ], name)
		w.put("var", name, ":", typ, ";")
	}
	for i := range 1 + w.below(5) {
		f := signature{name: fmt.Sprint("f", i), result: w.pick([]string{"", "w16", "w32"})}
		for range w.below(api.MaxParams + 1) {
			f.params = append(f.params, w.typ())
		}
		w.funcs = append(w.funcs, f)
	}
	for i, f := range w.funcs {
		w.function(f, "")
		if w.below(4) == 0 {
			w.function(signature{}, fmt.Sprint("on ", i, " priority 3"))
		}
	}
	w.function(signature{name: "main"}, "")
	return w.text.String()
}

// wantReckoned fails unless Check answers of names what the tests' own reckoning says, and what P6.2 says; it answers the fault's number.
func wantReckoned(t *testing.T, text string, n scope.Names) api.Errno {
	t.Helper()
	r := &reckoning{}
	want := r.names(n)
	if len(r.faults) > 0 {
		wantFaultOf(t, text, n, r.faults[0].Code, r.faults[0].At)
		return r.faults[0].Code
	}
	before := told(n)
	c, err := types.Check(n)
	if err != nil {
		t.Errorf("%.800q: %v (%+v), want no fault", text, err, err)
		return api.OK
	}
	if told(n) != before {
		t.Errorf("%.800q: the names were\n%s\nand are\n%s", text, before, told(n))
	}
	wantTold(t, text, c, want)
	for _, f := range c.Prog.Funcs {
		if wrong := wrongOf(f.Body); wrong != "" {
			t.Errorf("%.800q: %s", text, wrong)
		}
	}
	again, err := types.Check(c)
	if err != nil {
		t.Errorf("%.800q, once more: %v (%+v)", text, err, err)
	}
	wantTold(t, text+", once more", again, c)
	return api.OK
}

// P6.1, P6.2: programs of any parts, right and wrong ones, against the tests' own reckoning; what is checked, checked once more.
func TestP61AnyPrograms(t *testing.T) {
	many, tooLong := map[api.Errno]int{}, 0
	for _, wrong := range []rates{{}, {types: 10}, {types: 50}, {types: 200}, {numbers: 20}, {numbers: 300}, {counts: 300}, {values: 500}, {types: 10, numbers: 20, counts: 50, values: 50}} {
		for seed := range 150 {
			w := &writer{dice: dice(seed), rates: wrong}
			text := w.program()
			p, err := parse.Parse(text)
			if errors.Is(err, api.ErrLong) {
				tooLong++
				continue
			}
			n, wrongNames := scope.Resolve(p)
			if err != nil || wrongNames != nil {
				t.Fatalf("%q: %v, %v", text, err, wrongNames)
			}
			many[wantReckoned(t, text, n)]++
			if t.Failed() {
				return
			}
		}
	}
	for code, least := range map[api.Errno]int{api.OK: 250, api.ErrType: 150, api.ErrNumber: 100, api.ErrCount: 60, api.ErrValue: 60} {
		if many[code] < least {
			t.Errorf("%v was told %d times: %v", code, many[code], many)
		}
	}
	if tooLong > 50 {
		t.Errorf("%d texts are too long", tooLong)
	}
}

// leaves are expressions without others in them, each at its own place from there on.
func leaves(from int) []api.Expr {
	return []api.Expr{
		{Op: api.EWord, At: from, Name: "x", Type: api.W16}, {Op: api.EWord, At: from + 1, Name: "y", Type: api.W32, Ref: 1},
		{Op: api.ENum, At: from + 2, N: 40000}, {Op: api.ENum, At: from + 3, N: 70000},
	}
}

// grown answers all expressions of one operator over these, and cells with them as an index.
func grown(inner, others []api.Expr, at int) []api.Expr {
	var all []api.Expr
	for _, e := range inner {
		for op := api.ENeg; op <= api.EW32; op++ {
			all = append(all, api.Expr{Op: op, At: at, Args: []api.Expr{e}})
		}
		all = append(all, api.Expr{Op: api.ECell, At: at, Name: "b", Type: api.W32, Ref: 2, N: 5, Args: []api.Expr{e}})
		for _, other := range others {
			for op := api.EMul; op <= api.EOr; op++ {
				all = append(all, api.Expr{Op: op, At: at, Args: []api.Expr{e, other}}, api.Expr{Op: op, At: at, Args: []api.Expr{other, e}})
			}
		}
	}
	return all
}

// P6.1: all expressions of two operators over a w16, a w32, a number that may be either, and one that may not: asked for each type, and where either may be.
func TestP61AllExpressions(t *testing.T) {
	all := leaves(100)
	of1 := grown(leaves(100), leaves(110), 120)
	all = append(all, of1...)
	all = append(all, grown(of1, leaves(130), 140)...)
	many := map[api.Errno]int{}
	for _, e := range all {
		for typ := api.NoType; typ <= api.W32; typ++ {
			r := &reckoning{}
			s := api.Stmt{Op: api.SOut, At: 99, E: []api.Expr{e}}
			if typ != api.NoType {
				s = api.Stmt{Op: api.SSet, At: 99, Name: "t", E: []api.Expr{{Op: api.EWord, At: 99, Name: "t", Type: typ, Ref: 7}, e}}
			}
			want := r.statements([]api.Stmt{s})
			c, err := types.Check(scope.Names{Prog: api.Prog{Funcs: []api.Func{{Name: "main", Vector: -1, Body: []api.Stmt{s}}}}})
			var f *api.Fault
			switch {
			case len(r.faults) > 0:
				if !errors.As(err, &f) || *f != r.faults[0] || len(c.Prog.Funcs) > 0 {
					t.Fatalf("%s, asked for %d: %v (%+v), want %+v", typed(e), typ, err, err, r.faults[0])
				}
				many[f.Code]++
			case err != nil:
				t.Fatalf("%s, asked for %d: %v (%+v), want no fault", typed(e), typ, err, err)
			default:
				if got, want := typedStatements(c.Prog.Funcs[0].Body), typedStatements(want); got != want {
					t.Fatalf("asked for %d: %s, want %s", typ, got, want)
				}
				many[api.OK]++
			}
		}
	}
	if many[api.OK] < 20000 || many[api.ErrType] < 20000 || many[api.ErrNumber] < 20000 {
		t.Error(many)
	}
}
