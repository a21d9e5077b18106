package mean_test

import (
	"math"
	"reflect"
	"testing"

	"plover/api"
	"plover/mean"
)

// wantCalm does all that can be asked of a machine of a list that list may never make: nothing of it may panic, or go on for ever.
func wantCalm(t *testing.T, about string, l api.List, in ...api.Input) *mean.Machine {
	t.Helper()
	m := mean.New(l, in)
	if m == nil {
		t.Fatalf("%s: no machine", about)
	}
	for range 14 {
		c := m.Copy()
		was := whole(c)
		if err := m.Do(); err != api.OK && (err != api.ErrOver || whole(m) != was) {
			t.Errorf("%s: Do %v, %s", about, err, whole(m))
		}
		if c.Run(1) == 1 {
			was = whole(m)
		}
		wantTold(t, about, whole(c), was)
	}
	if m.Outcome() != api.Running && m.Run(100) != 0 {
		t.Errorf("%s: over, but goes on", about)
	}
	return m
}

// P1, P17.1: lists whose units, steps, numbers are not there.
func TestP1OddLists(t *testing.T) {
	right := func() api.List {
		return ofText(t, "var a: w32[3]; var n: w16; fn f(x: w16): w16 { return x; } on 0 priority 1 { n = 1; } fn main() { var y: w16 = 1; out irq.mask = 1; out irq.pend = 1; y = f(y); a[y] = a[1] + 2; in n = gpio.in; if (y) { critical { sleep; } } halt; }")
	}
	ends := []int{math.MinInt, -1000, -2, -1, 3, 8, 100, 511, 1 << 40, math.MaxInt}
	for _, n := range ends {
		for about, change := range map[string]func(l *api.List){
			"main": func(l *api.List) { l.Main = n }, "size": func(l *api.List) { l.Size = n },
			"vectors":    func(l *api.List) { l.Units[1].Vector = n },
			"priorities": func(l *api.List) { l.Units[1].Prio = n },
			"parameters": func(l *api.List) { l.Units[0].Params = n },
		} {
			l := right()
			change(&l)
			wantCalm(t, about, l, pins(3, 1))
		}
		for i := range right().Units[2].Steps {
			for about, change := range map[string]func(s *api.Step){
				"kinds": func(s *api.Step) { s.Op = n }, "locals": func(s *api.Step) { s.Var = n }, "words": func(s *api.Step) { s.Var, s.Addr = -1, n },
				"lengths": func(s *api.Step) { s.Count = n }, "types": func(s *api.Step) { s.Type = n }, "units": func(s *api.Step) { s.Func = n },
				"registers": func(s *api.Step) { s.Reg = n }, "next": func(s *api.Step) { s.Next = n }, "else": func(s *api.Step) { s.Else = n },
				"nothing": func(s *api.Step) { s.E = nil },
			} {
				l := right()
				change(&l.Units[2].Steps[i])
				wantCalm(t, about, l, pins(3, 1))
			}
			for about, change := range map[string]func(e *api.Expr){
				"operators": func(e *api.Expr) { e.Op = n }, "numbers": func(e *api.Expr) { e.N = int64(n) }, "references": func(e *api.Expr) { e.Ref = n },
				"types of expressions": func(e *api.Expr) { e.Type = n }, "no operands": func(e *api.Expr) { e.Args = nil },
			} {
				l := right()
				for j := range l.Units[2].Steps[i].E {
					change(&l.Units[2].Steps[i].E[j])
				}
				wantCalm(t, about, l, pins(3, 1))
			}
		}
	}
}

// P1, P17.1: units without steps, without locals; with fewer locals than arguments; two handlers of one vector.
func TestP1OddUnits(t *testing.T) {
	m := wantCalm(t, "a unit of nothing", api.List{Units: []api.Unit{{}}})
	if m.Line() != 0 || len(m.Frames()) != 1 {
		t.Errorf("a unit of nothing: %s", whole(m))
	}
	for _, all := range [][]api.Unit{make([]api.Unit, 20), {{Steps: make([]api.Step, 5)}}, {{Vector: 3, Prio: 3, Steps: make([]api.Step, 5), Locals: make([]api.Local, 3)}}} {
		for main := range len(all) {
			wantCalm(t, "zero units", api.List{Units: all, Main: main, Size: 3}, byteAt(1, 1))
		}
	}
	l := ofText(t, "fn f(x: w16, y: w16) { out gpio.out = x + y; } fn main() { f(1, 2); }")
	l.Units[0].Locals = l.Units[0].Locals[:1]
	wantCalm(t, "more arguments than locals", l)
	l = ofText(t, "on 1 priority 1 { out gpio.out = 1; } on 2 priority 1 { out gpio.out = 2; } fn main() { out irq.mask = 255; out irq.pend = 6; while (1) { } }")
	l.Units[0].Vector = 2
	wantCalm(t, "two handlers of one vector", l)
	// Sections that end more often than they begin.
	wantCalm(t, "ends alone", mainOf(step(api.StepLeave, 1), step(api.StepLeave, 0)))
}

// odd fills a value with numbers of any kinds.
func odd(d *dice, v reflect.Value, deep int) {
	switch v.Kind() {
	case reflect.Int, reflect.Int64:
		v.SetInt(int64(d.below(9) - 2))
		if d.below(20) == 0 {
			v.SetInt([]int64{math.MinInt64, -1 << 31, 30, 511, 1 << 33, math.MaxInt64}[d.below(6)])
		}
	case reflect.Slice:
		if deep > 7 {
			return
		}
		for range d.below(4) {
			one := reflect.New(v.Type().Elem()).Elem()
			odd(d, one, deep+1)
			v.Set(reflect.Append(v, one))
		}
	case reflect.Struct:
		for i := range v.NumField() {
			odd(d, v.Field(i), deep+1)
		}
	}
}

// P1, P17.1: lists of any numbers.
func TestP1AnyLists(t *testing.T) {
	d := dice(12)
	ends := map[int]int{}
	for range 2500 {
		l := api.List{}
		odd(&d, reflect.ValueOf(&l).Elem(), 0)
		if len(l.Units) == 0 {
			if mean.New(l, nil) != nil {
				t.Errorf("a machine of %+v", l)
			}
			continue
		}
		if d.below(2) == 0 {
			l.Main = d.below(len(l.Units))
		}
		for i := range l.Units {
			for j := range l.Units[i].Steps {
				s := &l.Units[i].Steps[j]
				if d.below(3) > 0 {
					s.Op, s.Next = d.below(11), d.below(len(l.Units[i].Steps))
				}
			}
		}
		before := told(l)
		m := wantCalm(t, before, l, script(&d, 30)...)
		wantTold(t, "the list", told(l), before)
		ends[m.Outcome()]++
	}
	for _, end := range []int{api.Running, api.Halted, api.TrapCode} {
		if ends[end] < 50 {
			t.Errorf("only %d with the outcome %d", ends[end], end)
		}
	}
}

// P1: empty lists are as those that are nil.
func TestP1EmptyLists(t *testing.T) {
	l := ofText(t, "fn f() { } fn main() { f(); critical { } sleep; return; }")
	want := machine(t, l)
	l.Words = []api.Word{}
	for i := range l.Units {
		l.Units[i].Locals = []api.Local{}
		for j := range l.Units[i].Steps {
			l.Units[i].Steps[j].E = []api.Expr{}
		}
	}
	m := mean.New(l, []api.Input{})
	want.Run(20)
	m.Run(20)
	wantTold(t, "empty lists", whole(m), whole(want))
}
