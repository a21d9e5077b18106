package scope_test

import (
	"fmt"
	"reflect"
	"slices"
	"strings"
	"testing"

	"plover/api"
	"plover/scope"
)

// dice answers numbers below n, the same ones each time.
type dice uint64

func (d *dice) below(n int) int {
	*d = *d*6364136223846793005 + 1442695040888963407
	return int(uint64(*d) >> 33 % uint64(n))
}

// pick answers one of these, or, of none, a name that means nothing.
func (d *dice) pick(from []string) string {
	if len(from) == 0 {
		return "none"
	}
	return from[d.below(len(from))]
}

// rates tells how many of 1000 are wrong: names that are any ones, returns that stand in a critical, globals and vars that are too many.
type rates struct {
	names, returns, many int
}

// writer writes texts of programs that can be parsed.
type writer struct {
	dice
	rates
	text     strings.Builder
	structs  []string
	numbers  []string
	arrays   []string
	globals  []string // of structs
	fields   map[string][]string
	funcs    []string
	locals   []string // in scope
	vars     int      // of the function
	words    int      // of arrays
	critical int
	next     int // of names
}

// chance tells one of two; so many times of 1000 that it is so.
func (w *writer) chance(of1000 int) bool {
	return w.below(1000) < of1000
}

func (w *writer) put(all ...string) {
	for _, text := range all {
		w.text.WriteString(text)
		w.text.WriteString([]string{" ", "\n", "  "}[w.below(3)])
	}
}

// name answers one of these names, or any one.
func (w *writer) name(right []string) string {
	if w.chance(w.names) {
		all := slices.Concat(w.structs, w.numbers, w.arrays, w.globals, w.funcs, w.locals, []string{"main", "none", "x1", "x2", "p0", "v1", "f1"})
		return all[w.below(len(all))]
	}
	return w.pick(right)
}

// newName answers a name that is not there yet, or any one.
func (w *writer) newName(letter string) string {
	if w.chance(w.names) {
		return w.name(nil)
	}
	w.next++
	return fmt.Sprint(letter, w.next)
}

// newLocal answers a local's name: those of blocks that are over are taken again now and then.
func (w *writer) newLocal() string {
	for _, name := range []string{"x1", "x2", "x3", "i", "p0"} {
		if !slices.Contains(w.locals, name) && w.below(3) == 0 {
			return name
		}
	}
	return w.newName("v")
}

func (w *writer) typ() string {
	return w.pick([]string{"w16", "w32"})
}

// number answers a name that is a number's.
func (w *writer) number() string {
	if w.below(2) == 0 && len(w.locals) > 0 {
		return w.name(w.locals)
	}
	return w.name(w.numbers)
}

// fieldOf answers a field of a global, or any one.
func (w *writer) fieldOf(global string) string {
	if w.chance(w.names) {
		return w.pick([]string{"p0", "p1", "p5", "x1", "n1"})
	}
	return w.pick(w.fields[global])
}

func (w *writer) expression(deep int) {
	switch which := w.below(9); {
	case deep > 4 || which == 0:
		w.put(fmt.Sprint(w.below(99)))
	case which < 3:
		w.put(w.number())
	case which == 3:
		w.put(w.name(w.arrays), "[")
		w.expression(deep + 1)
		w.put("]")
	case which == 4:
		global := w.name(w.globals)
		w.put(global, ".", w.fieldOf(global))
	case which == 5:
		w.put(w.pick([]string{"-", "~", "!"}), "(")
		w.expression(deep + 1)
		w.put(")")
	case which == 6:
		w.put(w.typ(), "(")
		w.expression(deep + 1)
		w.put(")")
	default:
		w.put("(")
		w.expression(deep + 1)
		w.put(")", w.pick(strings.Fields("* / % + - << >> < <= > >= == != & ^ |")))
		w.expression(deep + 1)
	}
}

func (w *writer) value() {
	w.put("=")
	w.expression(0)
	w.put(";")
}

func (w *writer) call() {
	w.put(w.name(w.funcs), "(")
	for i := range w.below(4) {
		if i > 0 {
			w.put(",")
		}
		w.expression(2)
	}
	w.put(")", ";")
}

// block writes a block: what it declares is not in scope behind it.
func (w *writer) block(deep int) {
	before := slices.Clone(w.locals)
	w.put("{")
	for range w.below(5) {
		w.statement(deep)
	}
	w.put("}")
	w.locals = before
}

func (w *writer) statement(deep int) {
	if w.chance(w.many) {
		for range 8 {
			w.variable()
		}
	}
	switch w.below(8) {
	case 0, 1:
		w.variable()
	case 2:
		w.put(w.number())
		w.value()
	case 3:
		w.put(w.name(w.arrays), "[")
		w.expression(1)
		w.put("]")
		w.value()
	case 4:
		global := w.name(w.globals)
		w.put(global, ".", w.fieldOf(global))
		w.value()
	case 5:
		if w.below(2) == 0 {
			w.put(w.number(), "=")
		}
		w.call()
	case 6:
		w.alone()
		if w.critical > 0 && w.chance(w.returns) {
			w.put("return", ";")
		}
	default:
		w.nested(deep)
	}
}

// variable writes a var; its name is one of the locals from behind it on.
func (w *writer) variable() {
	if w.vars == api.MaxLocals && !w.chance(w.many) {
		w.put("sleep", ";")
		return
	}
	w.vars++
	name := w.newLocal()
	w.put("var", name, ":", w.typ())
	if w.chance(w.names) {
		w.put("=", name, ";")
	} else {
		w.value()
	}
	w.locals = append(w.locals, name)
}

// alone writes a statement without names of its own, or in.
func (w *writer) alone() {
	switch w.below(6) {
	case 0:
		w.put("in", w.number(), "=", "gpio", ".", "in", ";")
	case 1:
		w.put("out", "t0", ".", "comp")
		w.value()
	case 2, 3:
		if w.critical > 0 && !w.chance(w.returns) {
			w.put("halt", ";")
			return
		}
		w.put("return")
		// A return with two faults would be told in one of two ways.
		if w.critical == 0 && w.below(2) == 0 {
			w.expression(1)
		}
		w.put(";")
	default:
		w.put(w.pick([]string{"sleep", "halt"}), ";")
	}
}

// nested writes a statement with blocks.
func (w *writer) nested(deep int) {
	if deep > 3 {
		w.put("sleep", ";")
		return
	}
	switch w.below(4) {
	case 0, 1:
		w.put("if", "(")
		w.expression(1)
		w.put(")")
		w.block(deep + 1)
		if w.below(2) == 0 {
			w.put("else")
			w.block(deep + 1)
		}
	case 2:
		w.put("while", "(")
		w.expression(1)
		w.put(")")
		w.block(deep + 1)
	default:
		w.critical++
		w.put("critical")
		w.block(deep + 1)
		w.critical--
	}
}

func (w *writer) structure() {
	name := w.newName("S")
	w.structs = append(w.structs, name)
	w.put("struct", name, "{")
	for i := range 1 + w.below(5) {
		field := fmt.Sprint("p", i)
		if w.chance(w.names) {
			field = "p0"
		}
		w.fields[name] = append(w.fields[name], field)
		w.put(field, ":", w.typ(), ";")
	}
	w.put("}")
}

func (w *writer) global() {
	switch w.below(3) {
	case 0:
		w.numbers = append(w.numbers, w.newName("n"))
		w.put("var", w.numbers[len(w.numbers)-1], ":", w.typ(), ";")
	case 1:
		w.arrays = append(w.arrays, w.newName("a"))
		many := 1 + w.below(64)
		w.words += many
		w.put("var", w.arrays[len(w.arrays)-1], ":", w.typ(), "[", fmt.Sprint(many), "]", ";")
	default:
		name, structure := w.newName("s"), w.name(w.structs)
		w.globals = append(w.globals, name)
		w.fields[name] = w.fields[structure]
		w.put("var", name, ":", structure, ";")
	}
}

// function writes the function with that number; all have got their names ahead.
func (w *writer) function(number int) {
	w.locals, w.vars = nil, 0
	name := w.funcs[number]
	if w.chance(w.names) {
		name = w.name(w.funcs)
	}
	w.put("fn", name, "(")
	for i := range w.below(4) {
		if i > 0 {
			w.put(",")
		}
		param := fmt.Sprint("x", i)
		if w.chance(w.names) {
			param = w.name(w.locals)
		}
		w.locals = append(w.locals, param)
		w.put(param, ":", w.typ())
	}
	w.put(")")
	if w.below(2) == 0 {
		w.put(":", w.typ())
	}
	w.block(0)
}

func (w *writer) program() string {
	w.structure()
	for range w.below(4) {
		w.structure()
	}
	w.numbers, w.arrays, w.globals = []string{"n0"}, []string{"a0"}, []string{"s0"}
	w.fields["s0"] = w.fields[w.structs[0]]
	w.put("var", "n0", ":", w.typ(), ";", "var", "a0", ":", w.typ(), "[", "7", "]", ";", "var", "s0", ":", w.structs[0], ";")
	for range w.below(12 + w.many/2) {
		if w.words < 400 || w.chance(w.many) {
			w.global()
		}
	}
	for i := range 1 + w.below(4) {
		w.funcs = append(w.funcs, fmt.Sprint("f", i))
	}
	for i := range w.funcs {
		w.function(i)
	}
	for vector := range w.below(3) {
		if w.chance(w.names) {
			vector = 0
		}
		w.locals, w.vars = nil, 0
		w.put("on", fmt.Sprint(vector), "priority", "3")
		w.block(0)
	}
	w.locals, w.vars = nil, 0
	w.put("fn", "main", "(")
	if w.chance(w.names) {
		w.put("x1", ":", "w16")
	}
	w.put(")")
	if w.chance(w.names) {
		w.put(":", w.typ())
	}
	w.block(0)
	return w.text.String()
}

// wantReckoned fails unless Resolve answers of a program what the tests' own reckoning says; it answers the fault's number.
func wantReckoned(t *testing.T, text string) api.Errno {
	t.Helper()
	p := parsed(t, text)
	want := reckon(p)
	if len(want.faults) > 0 {
		wantFault(t, text, want.faults[0].Code, want.faults[0].At)
		return want.faults[0].Code
	}
	n := resolved(t, text)
	wantTold(t, text, n.Words, want.words)
	wantTold(t, text, n.Size, want.size)
	wantTold(t, text, n.Locals, want.locals)
	var got [][]api.Expr
	for _, f := range n.Prog.Funcs {
		got = append(got, referencesOf(f.Body))
	}
	wantTold(t, text, got, want.references)
	if back := unresolved(n.Prog); !reflect.DeepEqual(back, p) {
		wantTold(t, text, back, p)
	}
	return api.OK
}

// P5.1: programs of any parts, right and wrong ones, against the tests' own reckoning.
func TestP51AnyPrograms(t *testing.T) {
	told := map[api.Errno]int{}
	for _, wrong := range []rates{{}, {names: 1}, {names: 4}, {names: 15}, {names: 60}, {returns: 300}, {many: 150}, {names: 2, returns: 300, many: 150}} {
		for seed := range 200 {
			w := &writer{dice: dice(seed), rates: wrong, fields: map[string][]string{}}
			text := w.program()
			if len(text) < api.MaxText {
				told[wantReckoned(t, text)]++
			}
			if t.Failed() {
				return
			}
		}
	}
	for code, least := range map[api.Errno]int{api.OK: 400, api.ErrTwice: 80, api.ErrName: 40, api.ErrSort: 40, api.ErrCrit: 10, api.ErrMain: 10, api.ErrMany: 40} {
		if told[code] < least {
			t.Errorf("%v was told %d times: %v", code, told[code], told)
		}
	}
}

// withLocals answers a program in which each local has the name that renamed tells, by its function and its number.
func withLocals(n scope.Names, renamed func(function, local int) string) api.Prog {
	p := unresolved(n.Prog)
	for i := range p.Funcs {
		f := &p.Funcs[i]
		f.Params = slices.Clone(f.Params)
		for j := range f.Params {
			f.Params[j].Name = renamed(i, j)
		}
		f.Body = unresolvedStatements(renamedStatements(n.Prog.Funcs[i].Body, func(local int) string { return renamed(i, local) }))
	}
	return p
}

// renamedStatements are statements that were resolved, with other names for locals.
func renamedStatements(body []api.Stmt, renamed func(local int) string) []api.Stmt {
	var all []api.Stmt
	for _, s := range body {
		s.E = renamedExpressions(s.E, renamed)
		if s.Op != api.SCell && s.Op != api.SField && s.Name != "" && s.E[0].Op == api.ELocal {
			s.Name = s.E[0].Name
		}
		s.Body, s.Else = renamedStatements(s.Body, renamed), renamedStatements(s.Else, renamed)
		all = append(all, s)
	}
	return all
}

func renamedExpressions(list []api.Expr, renamed func(local int) string) []api.Expr {
	var all []api.Expr
	for _, e := range list {
		if e.Op == api.ELocal {
			e.Name = renamed(e.Ref)
		}
		e.Args = renamedExpressions(e.Args, renamed)
		all = append(all, e)
	}
	return all
}

// P5.2: other names for locals, each another one, give the same references.
func TestP52OtherNames(t *testing.T) {
	for seed := range 200 {
		w := &writer{dice: dice(seed), fields: map[string][]string{}}
		text := w.program()
		if len(text) > api.MaxText {
			continue
		}
		n := resolved(t, text)
		for _, renamed := range []func(function, local int) string{
			func(function, local int) string { return fmt.Sprint("z", local) },
			func(function, local int) string { return fmt.Sprint("p", 40-local) },
			func(function, local int) string { return fmt.Sprint("z", function, "_", local) },
			func(function, local int) string { return strings.Repeat("_", 1+local) },
		} {
			other, err := scope.Resolve(withLocals(n, renamed))
			if err != nil {
				t.Fatalf("%q, with other names: %v (%+v)", text, err, err)
			}
			wantTold(t, text, other.Words, n.Words)
			wantTold(t, text, other.Size, n.Size)
			for i, all := range other.Locals {
				want := slices.Clone(n.Locals[i])
				for j := range want {
					want[j].Name = renamed(i, j)
				}
				wantTold(t, text, all, want)
				wantTold(t, text, other.Prog.Funcs[i].Body, renamedStatements(n.Prog.Funcs[i].Body, func(local int) string { return renamed(i, local) }))
			}
			if t.Failed() {
				return
			}
		}
	}
}

// P5.2: at each place no local may have a name that is the program's, or of a local in scope there; all others it may have.
func TestP52NamesInScope(t *testing.T) {
	places := []struct{ body, inScope string }{
		{"@ var x: w16 = 1; var y: w16 = 1;", "v w"},
		{"var x: w16 = 1; @", "v w x"},
		{"var x: w16 = 1; if (1) { @ }", "v w x"},
		{"var x: w16 = 1; if (1) { var y: w16 = 1; @ }", "v w x y"},
		{"var x: w16 = 1; if (1) { var y: w16 = 1; } else { @ }", "v w x"},
		{"if (1) { var y: w16 = 1; while (1) { var x: w16 = 1; } @ }", "v w y"},
		{"if (1) { var y: w16 = 1; critical { var x: w16 = 1; } } else { var x: w16 = 1; } @", "v w"},
		{"critical { var x: w16 = 1; while (1) { if (1) { } else { var y: w16 = 1; @ } } }", "v w x y"},
	}
	for _, place := range places {
		for _, name := range strings.Fields("n m a b s S main f g v w x y p q z") {
			taken := append(strings.Fields("n m a b s S main f g"), strings.Fields(place.inScope)...)
			if slices.Contains(taken, name) {
				wantBodyMarked(t, strings.Replace(place.body, "@", "`var "+name+": w16 = 1;", 1), api.ErrTwice)
				continue
			}
			body(t, strings.Replace(place.body, "@", "while (1) { var "+name+": w16 = 1; }", 1))
		}
	}
}
