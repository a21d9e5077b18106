package mean_test

import (
	"fmt"
	"slices"
	"strings"
	"testing"

	"plover/api"
	"plover/fold"
	"plover/mean"
	"plover/scope"
)

// signature is a function that may be called.
type signature struct {
	name, result string
	params       []string
}

// writer writes programs of any parts, each step on a line of its own. Most divisors are odd, most indexes are cut, so that programs don't all trap at once.
type writer struct {
	dice
	lines    []string
	numbers  map[string][]string
	funcs    []signature
	unit     signature
	vars     int
	critical int
}

func (w *writer) line(parts ...string) {
	w.lines = append(w.lines, strings.Join(parts, ""))
}

func (w *writer) typ() string {
	return w.pick("w16", "w32")
}

// value writes an expression that has that type, whatever it is made of.
func (w *writer) value(typ string, deep int) string {
	return typ + "(" + w.expression(w.typ(), deep) + ")"
}

func (w *writer) array(typ string) string {
	if typ == "w16" {
		return "a"
	}
	return "b"
}

// element writes an element of the arrays, which have four.
func (w *writer) element(typ string) string {
	if w.below(5) == 0 {
		return w.array(typ) + "[" + w.pick(w.numbers["w16"]...) + " % 6]"
	}
	return w.array(typ) + "[" + w.pick(w.numbers[w.typ()]...) + " & 3]"
}

// expression writes one whose parts that are no numbers have that type.
func (w *writer) expression(typ string, deep int) string {
	which := w.below(10)
	if deep > 1 {
		which = w.below(6)
	}
	part := func() string { return w.value(typ, deep+1) }
	switch which {
	case 0, 1:
		return w.pick("0", "1", "2", "3", "5", "300", "40000", "65535")
	case 2, 3, 4:
		return w.pick(w.numbers[typ]...)
	case 5:
		return w.element(typ)
	case 6:
		return w.pick("-", "~", "!") + part()
	case 7:
		return part() + w.pick(" < ", " <= ", " > ", " >= ", " == ", " != ") + part()
	case 8:
		if w.below(8) == 0 {
			return part() + w.pick(" / ", " % ") + part()
		}
		return part() + w.pick(" / ", " % ") + "(" + part() + " | 1)"
	}
	return part() + w.pick(" * ", " + ", " - ", " & ", " ^ ", " | ", " << ", " >> ") + part()
}

// block writes a block's statements: what it declares is not in scope behind it.
func (w *writer) block(deep int) {
	before := map[string][]string{"w16": slices.Clone(w.numbers["w16"]), "w32": slices.Clone(w.numbers["w32"])}
	for range w.below(4) {
		w.statement(deep)
	}
	w.numbers = before
}

// plain answers names that stand for one value: no fields, which can't be set to what a call returns, or what is read in.
func plain(all []string) []string {
	return slices.DeleteFunc(slices.Clone(all), func(name string) bool { return strings.Contains(name, ".") })
}

func (w *writer) statement(deep int) {
	typ := w.typ()
	switch w.below(14) {
	case 0:
		if w.vars < 8 {
			w.vars++
			name := fmt.Sprint("v", w.vars)
			w.line("var ", name, ": ", typ, " = ", w.value(typ, 0), ";")
			w.numbers[typ] = append(w.numbers[typ], name)
		}
	case 1, 2:
		w.line(w.pick(w.numbers[typ]...), " = ", w.value(typ, 0), ";")
	case 3:
		w.line(w.element(typ), " = ", w.value(typ, 0), ";")
	case 4, 5:
		w.call()
	case 6:
		w.line("in ", w.pick(plain(w.numbers[typ])...), " = ", w.register(), ";")
	case 7, 8:
		w.line("out ", w.register(), " = ", w.value(typ, 0), ";")
	case 9:
		w.leaving()
	default:
		w.nested(deep)
	}
}

func (w *writer) register() string {
	if w.below(3) > 0 {
		return w.pick("gpio.out", "gpio.in", "uart.data", "uart.stat", "t0.count", "t1.comp", "irq.pend")
	}
	return w.pick("gpio.edge", "uart.ctl", "t0.comp", "t0.ctl", "t1.count", "t1.ctl", "irq.mask", "irq.clear")
}

func (w *writer) call() {
	f := w.funcs[w.below(len(w.funcs))]
	var args []string
	for _, typ := range f.params {
		args = append(args, w.value(typ, 1))
	}
	sets := ""
	if f.result != "" && w.below(4) > 0 {
		sets = w.pick(plain(w.numbers[f.result])...) + " = "
	}
	w.line(sets, f.name, "(", strings.Join(args, ", "), ");")
}

// leaving writes what waits, and, seldom, what ends something.
func (w *writer) leaving() {
	switch {
	case w.below(12) == 0:
		w.line("halt;")
	case w.critical == 0 && w.below(3) == 0 && w.unit.result != "":
		w.line("return ", w.value(w.unit.result, 0), ";")
	case w.critical == 0 && w.below(3) == 0 && w.unit.name != "main":
		if w.unit.result == "" {
			w.line("return;")
		}
	case w.critical == 0 || w.below(5) == 0:
		w.line("sleep;")
	}
}

// nested writes a statement with blocks.
func (w *writer) nested(deep int) {
	if deep > 2 {
		w.line("out gpio.out = ", w.value(w.typ(), 1), ";")
		return
	}
	switch w.below(5) {
	case 0, 1:
		w.line("if (", w.value(w.typ(), 0), ") {")
		w.block(deep + 1)
		if w.below(2) == 0 {
			w.line("} else {")
			w.block(deep + 1)
		}
	case 2:
		w.line("while (", w.value(w.typ(), 0), ") {")
		w.block(deep + 1)
	default:
		w.line("critical {")
		w.critical++
		w.block(deep + 1)
		w.critical--
	}
	w.line("}")
}

// function writes a function, a handler, or main; main goes on and on.
func (w *writer) function(f signature, head string) {
	w.unit, w.vars = f, 0
	before := w.numbers
	w.numbers = map[string][]string{"w16": slices.Clone(before["w16"]), "w32": slices.Clone(before["w32"])}
	var params []string
	for i, typ := range f.params {
		name := fmt.Sprint("p", i)
		params = append(params, name+": "+typ)
		w.numbers[typ] = append(w.numbers[typ], name)
	}
	if head == "" {
		head = "fn " + f.name + "(" + strings.Join(params, ", ") + ")"
		if f.result != "" {
			head += ": " + f.result
		}
	}
	w.line(head, " {")
	if f.name == "main" {
		w.begin()
	} else {
		w.block(0)
	}
	w.line("}")
	w.numbers = before
}

// begin writes what main does: it lets the devices request, and then does things, mostly without an end.
func (w *writer) begin() {
	for _, s := range []string{
		"out gpio.edge = 255;", "out uart.ctl = 3;", fmt.Sprint("out t0.comp = ", 7+w.below(30), ";"), "out t0.ctl = 3;",
		fmt.Sprint("out t1.comp = ", 3+w.below(50), ";"), "out t1.ctl = 3;", "out irq.mask = 255;",
	} {
		if w.below(6) > 0 {
			w.line(s)
		}
	}
	w.line("while (", w.pick("1", "1", "1", "x < 100"), ") {")
	w.block(0)
	w.block(0)
	w.line("}")
}

// program writes a program.
func (w *writer) program() string {
	w.numbers = map[string][]string{"w16": {"x", "s.p"}, "w32": {"y", "s.q"}}
	w.line("struct S { q: w32; p: w16; } var s: S; var b: w32[4]; var x: w16; var a: w16[4]; var y: w32;")
	for i := range 1 + w.below(4) {
		f := signature{name: fmt.Sprint("f", i), result: w.pick("", "w16", "w32")}
		for range w.below(4) {
			f.params = append(f.params, w.typ())
		}
		w.funcs = append(w.funcs, f)
	}
	main := w.below(len(w.funcs) + 1)
	for i, f := range w.funcs {
		if i == main {
			w.function(signature{name: "main"}, "")
		}
		w.function(f, "")
	}
	if main == len(w.funcs) {
		w.function(signature{name: "main"}, "")
	}
	for vector := range 8 {
		if w.below(3) > 0 {
			w.function(signature{}, fmt.Sprintf("on %d priority %d", vector, 1+w.below(7)))
		}
	}
	return strings.Join(w.lines, "\n")
}

// script answers inputs of any kinds by a cycle.
func script(d *dice, most int) []api.Input {
	var in []api.Input
	often := 1 + d.below(12)
	for c := 1; c <= most; c++ {
		if d.below(often) == 0 {
			in = append(in, pins(c, uint8(d.below(256))))
		}
		if d.below(often) == 0 {
			in = append(in, byteAt(c, uint8(d.below(256))))
		}
		if d.below(4*often) == 0 {
			in = append(in, masked(c, uint8(d.below(256)&d.below(256)*d.below(2))))
		}
	}
	return in
}

// made answers the names of a program of any parts, its text, and inputs.
func made(t *testing.T, seed, most int) (scope.Names, string, []api.Input) {
	t.Helper()
	w := &writer{dice: dice(seed)}
	text := w.program()
	return checked(t, text), text, script(&w.dice, most)
}

// same tells whether the same is there.
func same(a, b index) bool {
	frames := slices.EqualFunc(a.frames, b.frames, func(f, g shadow) bool {
		return f.unit == g.unit && f.line == g.line && f.vector == g.vector && f.asleep == g.asleep && slices.Equal(f.locals, g.locals)
	})
	return frames && slices.Equal(a.words, b.words) && a.line == b.line && a.bank == b.bank && a.critical == b.critical && a.mask == b.mask && a.events == b.events
}

// wantIndex fails unless a machine tells of itself what there is behind as many cycles of the program as it is written.
func wantIndex(t *testing.T, m *mean.Machine, l api.List, want index) bool {
	t.Helper()
	var frames []shadow
	for _, f := range m.Frames() {
		line := l.Units[f.Unit].Steps[f.Step].Line
		frames = append(frames, shadow{unit: f.Unit, line: line, vector: f.Vector, asleep: f.Asleep, locals: f.Locals})
	}
	got := index{m.Line(), frames, m.Words(), m.Bank(), m.Critical(), m.Mask(), len(m.Events())}
	if !same(got, want) {
		t.Errorf("behind %d cycles:\n got %+v\nwant %+v", m.Cycle(), got, want)
		return false
	}
	return true
}

// tally counts what programs of any parts came to.
type tally map[string]int

func (c tally) add(what string, is bool) {
	if is {
		c[what]++
	}
}

// count counts what there is at an index.
func (c tally) count(i index) {
	handlers, asleep := 0, 0
	for _, f := range i.frames {
		if f.vector >= 0 {
			handlers++
		}
		if f.asleep {
			asleep++
		}
	}
	c.add("handlers", handlers > 0)
	c.add("handlers within handlers", handlers > 1)
	c.add("three handlers", handlers > 2)
	c.add("asleep", asleep > 0)
	c.add("deep", len(i.frames) > 4)
	c.add("critical", i.critical > 0)
	c.add("critical within critical", i.critical > 1)
	c.add("masked", i.mask > 0)
	c.add("requests that wait", i.bank.Irq.Pend&i.bank.Irq.Mask != 0)
}

// wantEnough fails if one of these came too seldom.
func (c tally) wantEnough(t *testing.T, least int, all ...string) {
	t.Helper()
	for _, what := range all {
		if c[what] < least {
			t.Errorf("%s: only %d (%v)", what, c[what], c)
		}
	}
}

// P17.2, P17.3: programs of any parts, folded and not, do, cycle by cycle, what they do as they are written.
func TestP172AnyPrograms(t *testing.T) {
	const most = 400
	all, ends := tally{}, tally{}
	for seed := range 500 {
		n, text, in := made(t, seed, most)
		if seed%2 == 1 {
			n.Prog = fold.Prog(n.Prog)
		}
		l := listed(t, n)
		want := sourceOf(n, in, most)
		m := machine(t, l, in...)
		for i, there := range want.indexes {
			all.count(there)
			if m.Cycle() != i || !wantIndex(t, m, l, there) {
				t.Fatalf("index %d, seed %d of\n%s\n%v", i, seed, text, in)
			}
			if i == len(want.indexes)-1 {
				break
			}
			if m.Outcome() != api.Running || m.Do() != api.OK {
				t.Fatalf("index %d, seed %d: %d, does not go on", i, seed, m.Outcome())
			}
		}
		wantTold(t, text, m.Events(), want.events)
		if m.Outcome() != want.outcome {
			t.Errorf("seed %d: outcome %d, want %d of\n%s", seed, m.Outcome(), want.outcome, text)
		}
		ends.add(ending(m)[:strings.Index(ending(m), " ")], true)
	}
	all.wantEnough(t, 1000, "handlers", "handlers within handlers", "asleep", "deep", "critical", "critical within critical", "masked", "requests that wait")
	all.wantEnough(t, 300, "three handlers")
	ends.wantEnough(t, 10, "runs", "Halted", "TrapDiv", "TrapIndex")
}
