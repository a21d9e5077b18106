package list_test

import (
	"fmt"
	"slices"
	"strings"
	"testing"

	"plover/api"
	"plover/list"
	"plover/scope"
)

// dice answers numbers below n, the same ones each time.
type dice uint64

func (d *dice) below(n int) int {
	*d = *d*6364136223846793005 + 1442695040888963407
	return int(uint64(*d) >> 33 % uint64(n))
}

func (d *dice) pick(from []string) string {
	return from[d.below(len(from))]
}

// signature is what is known of a function that can be called.
type signature struct {
	name   string
	params []string
	result string // w16, w32, or none
}

// writer writes texts of programs whose types go together.
type writer struct {
	dice
	text     strings.Builder
	most     int                 // statements of a block are fewer
	numbers  map[string][]string // globals, fields, and locals in scope, by their types
	arrays   map[string][]string
	funcs    []signature
	unit     signature
	vars     int
	critical int
}

// put writes pieces, now and then in a new line.
func (w *writer) put(all ...string) {
	for _, text := range all {
		w.text.WriteString(text)
		if w.below(8) == 0 {
			w.text.WriteString("\n")
		} else {
			w.text.WriteString(" ")
		}
	}
}

func (w *writer) typ() string {
	return w.pick([]string{"w16", "w32"})
}

// expression writes one of values that have that type.
func (w *writer) expression(typ string, deep int) {
	which := w.below(9)
	if deep > 1 {
		which = w.below(5)
	}
	switch which {
	case 0, 1:
		w.put(w.pick([]string{"0", "1", "2", "7", "300", "40000"}))
	case 2, 3, 4:
		w.put(w.pick(w.numbers[typ]))
	case 5:
		w.put(w.pick(w.arrays[typ]), "[")
		w.put(w.pick([]string{"0", "1", "2", w.pick(w.numbers["w16"])}))
		w.put("]")
	case 6:
		w.put(w.pick([]string{"-", "~", typ}))
		w.within(typ, deep)
	case 7:
		w.within(typ, deep)
		w.put(w.pick(strings.Fields("< <= > >= == !=")))
		w.within(typ, deep)
	default:
		w.within(typ, deep)
		w.put(w.pick(strings.Fields("* / % + - & ^ | << >>")))
		w.within(typ, deep)
	}
}

// within writes an expression between parentheses.
func (w *writer) within(typ string, deep int) {
	w.put("(")
	w.value(typ, deep+1)
	w.put(")")
}

// value writes an expression that has that type, whatever it is made of.
func (w *writer) value(typ string, deep int) {
	w.put(typ, "(")
	w.expression(w.typ(), deep)
	w.put(")")
}

// block writes a block: what it declares is not in scope behind it.
func (w *writer) block(deep int) {
	before := map[string][]string{"w16": slices.Clone(w.numbers["w16"]), "w32": slices.Clone(w.numbers["w32"])}
	w.put("{")
	for range w.below(w.most) {
		w.statement(deep)
	}
	w.put("}")
	w.numbers = before
}

func (w *writer) statement(deep int) {
	typ := w.typ()
	switch w.below(9) {
	case 0:
		w.variable(typ)
	case 1, 2:
		w.put(w.pick(w.numbers[typ]), "=")
		w.value(typ, 0)
		w.put(";")
	case 3:
		w.put(w.pick(w.arrays[typ]), "[")
		w.put(w.pick([]string{"0", "1", "2", w.pick(w.numbers["w16"])}))
		w.put("]", "=")
		w.value(typ, 0)
		w.put(";")
	case 4:
		w.call()
	case 5:
		w.alone()
	default:
		w.nested(deep)
	}
}

func (w *writer) variable(typ string) {
	if w.vars == api.MaxLocals {
		w.put("sleep", ";")
		return
	}
	w.vars++
	name := fmt.Sprint("v", w.vars)
	w.put("var", name, ":", typ, "=")
	w.value(typ, 0)
	w.put(";")
	w.numbers[typ] = append(w.numbers[typ], name)
}

// plain answers names that stand for one value: no fields, which can't be set to what a call returns, or what is read in.
func plain(all []string) []string {
	return slices.DeleteFunc(slices.Clone(all), func(name string) bool { return strings.Contains(name, ".") })
}

func (w *writer) call() {
	f := w.funcs[w.below(len(w.funcs))]
	if f.result != "" && w.below(3) > 0 {
		w.put(w.pick(plain(w.numbers[f.result])), "=")
	}
	w.put(f.name, "(")
	for i, typ := range f.params {
		if i > 0 {
			w.put(",")
		}
		w.value(typ, 1)
	}
	w.put(")", ";")
}

// alone writes a statement without others in it.
func (w *writer) alone() {
	switch w.below(7) {
	case 0, 1:
		w.put("in", w.pick(plain(w.numbers[w.typ()])), "=", w.pick([]string{"gpio.in", "t0.count", "irq.pend"}), ";")
	case 2, 3:
		w.put("out", w.pick([]string{"gpio.out", "uart.data", "t1.comp"}), "=")
		w.value(w.typ(), 0)
		w.put(";")
	case 4:
		w.giveBack()
	default:
		w.put(w.pick([]string{"sleep", "sleep", "halt"}), ";")
	}
}

func (w *writer) giveBack() {
	if w.critical > 0 {
		w.put("sleep", ";")
		return
	}
	w.put("return")
	if w.unit.result != "" {
		w.value(w.unit.result, 0)
	}
	w.put(";")
}

// nested writes a statement with blocks.
func (w *writer) nested(deep int) {
	if deep > 3 {
		w.put("sleep", ";")
		return
	}
	switch w.below(4) {
	case 0, 1:
		w.put("if", "(")
		w.value(w.typ(), 0)
		w.put(")")
		w.block(deep + 1)
		if w.below(2) == 0 {
			w.put("else")
			w.block(deep + 1)
		}
	case 2:
		w.put("while", "(")
		w.value(w.typ(), 0)
		w.put(")")
		w.block(deep + 1)
	default:
		w.critical++
		w.put("critical")
		w.block(deep + 1)
		w.critical--
	}
}

// function writes a function, a handler, or main.
func (w *writer) function(f signature, head string) {
	w.unit, w.vars = f, 0
	before := w.numbers
	w.numbers = map[string][]string{"w16": slices.Clone(before["w16"]), "w32": slices.Clone(before["w32"])}
	var params []string
	for i, typ := range f.params {
		name := fmt.Sprint("p", i)
		params = append(params, name+": "+typ)
		w.numbers[typ] = append(w.numbers[typ], name)
	}
	if head == "" {
		head = "fn " + f.name + "(" + strings.Join(params, ", ") + ")"
		if f.result != "" {
			head += ": " + f.result
		}
	}
	w.put(head)
	w.block(0)
	w.numbers = before
}

// program writes a program; blocks have fewer statements than that.
func (w *writer) program(most int) string {
	w.most = most
	w.numbers = map[string][]string{"w16": {"x", "s.p"}, "w32": {"y", "s.q"}}
	w.arrays = map[string][]string{"w16": {"a"}, "w32": {"b"}}
	w.put("struct S { q: w32; p: w16; } var s: S; var b: w32[7]; var x: w16; var a: w16[3]; var y: w32;")
	for i := range 1 + w.below(4) {
		f := signature{name: fmt.Sprint("f", i), result: w.pick([]string{"", "w16", "w32"})}
		for range w.below(4) {
			f.params = append(f.params, w.typ())
		}
		w.funcs = append(w.funcs, f)
	}
	main := w.below(len(w.funcs) + 1)
	for i, f := range w.funcs {
		if i == main {
			w.function(signature{name: "main"}, "")
		}
		w.function(f, "")
		if w.below(3) == 0 {
			w.function(signature{}, fmt.Sprint("on ", i, " priority 3"))
		}
	}
	if main == len(w.funcs) {
		w.function(signature{name: "main"}, "")
	}
	return w.text.String()
}

// made answers the names of a program of any parts, and its text; false, if the text is longer than may be.
func made(t *testing.T, seed, most int) (scope.Names, string, bool) {
	t.Helper()
	w := &writer{dice: dice(seed)}
	text := w.program(most)
	if len(text) > api.MaxText {
		return scope.Names{}, "", false
	}
	return checked(t, text), text, true
}

// P9.1: programs of any parts, folded and not, against the tests' own reckoning.
func TestP91AnyPrograms(t *testing.T) {
	right, many := 0, 0
	for seed := range 400 {
		n, text, is := made(t, seed, 2+seed%8)
		if !is {
			continue
		}
		for _, n := range []scope.Names{n, folded(n)} {
			want, at := reckoned(n)
			if at >= 0 {
				wantMany(t, text, n, at)
				many++
				continue
			}
			wantTold(t, text, listed(t, text, n), want)
			right++
		}
		if t.Failed() {
			return
		}
	}
	if right < 400 || many < 20 {
		t.Errorf("%d right, %d with too many steps", right, many)
	}
}

// shapes answers all bodies with so many statements, counted through all blocks: those without blocks are sleep, and halt.
func shapes(statements int) [][]api.Stmt {
	if statements == 0 {
		return [][]api.Stmt{nil}
	}
	var all [][]api.Stmt
	add := func(first api.Stmt, rests [][]api.Stmt) {
		for _, rest := range rests {
			all = append(all, append([]api.Stmt{first}, rest...))
		}
	}
	one := []api.Expr{{Op: api.ENum, N: 1, Type: api.W32}}
	for _, op := range []int{api.SSleep, api.SHalt} {
		add(api.Stmt{Op: op, Line: 10 * statements}, shapes(statements-1))
	}
	for inner := range statements {
		rests := shapes(statements - 1 - inner)
		for _, body := range shapes(inner) {
			add(api.Stmt{Op: api.SWhile, E: one, Body: body, Line: 10 * statements}, rests)
			add(api.Stmt{Op: api.SCrit, Body: body, Line: 10 * statements, End: 10*statements + 1}, rests)
		}
		for first := range inner + 1 {
			for _, body := range shapes(first) {
				for _, other := range shapes(inner - first) {
					add(api.Stmt{Op: api.SIf, E: one, Body: body, Else: other, Line: 10 * statements}, rests)
				}
			}
		}
	}
	return all
}

// P9.1: all bodies of up to four statements, against the tests' own reckoning.
func TestP91AllShapes(t *testing.T) {
	many := 0
	for statements := range 5 {
		for _, body := range shapes(statements) {
			n := scope.Names{Prog: api.Prog{Funcs: []api.Func{{Name: "main", Vector: -1, Body: body, End: 99}}}, Locals: [][]api.Local{nil}}
			want, _ := reckoned(n)
			got, err := list.Make(n)
			if err != nil {
				t.Fatal(err)
			}
			if told(got) != told(want) {
				t.Fatalf("%s:\n got %s\nwant %s", told(body), ways(got.Units[0].Steps), ways(want.Units[0].Steps))
			}
			many++
		}
	}
	if many < 1000 {
		t.Errorf("only %d bodies", many)
	}
}
