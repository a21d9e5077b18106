package list_test

import (
	"fmt"
	"slices"
	"testing"

	"plover/api"
	"plover/fold"
	"plover/scope"
)

// memory is what programs and lists work on: words, what is read in, and what was told of each step that was done.
type memory struct {
	words []int32
	reads int
	told  []string
}

// over is how a run is left.
type over struct{ why string }

const mostSteps = 300

// tell tells a step that is done, and leaves if there were enough.
func (m *memory) tell(line int, all ...any) {
	if len(m.told) == mostSteps {
		panic(over{"enough"})
	}
	m.told = append(m.told, fmt.Sprint(line, all))
}

// read answers what is read in next.
func (m *memory) read() int32 {
	m.reads++
	return int32(m.reads*m.reads - 40)
}

// value answers an expression's value.
func (m *memory) value(locals []int32, e api.Expr) int32 {
	switch {
	case e.Op == api.ENum:
		return int32(e.N)
	case e.Op == api.ELocal:
		return locals[e.Ref]
	case e.Op == api.EWord:
		return m.words[e.Ref]
	case e.Op == api.ECell:
		return m.words[m.element(locals, e)]
	case len(e.Args) == 1:
		return fold.Un(e.Op, e.Type, m.value(locals, e.Args[0]))
	}
	left, right := m.value(locals, e.Args[0]), m.value(locals, e.Args[1])
	v, is := fold.Bin(e.Op, e.Args[0].Type, left, right)
	if !is {
		panic(over{"division"})
	}
	return v
}

// element answers the address of an array's element.
func (m *memory) element(locals []int32, e api.Expr) int {
	return e.Ref + m.within(m.value(locals, e.Args[0]), int(e.N))
}

func (m *memory) within(i int32, length int) int {
	if i < 0 || int(i) >= length {
		panic(over{"index"})
	}
	return int(i)
}

// ending runs something, and answers how it was left.
func (m *memory) ending(run func()) (why string) {
	defer func() {
		switch left := recover().(type) {
		case nil:
			why = "at its end"
		case over:
			why = left.why
		default:
			panic(left)
		}
	}()
	run()
	return ""
}

// tree runs a program as it is written.
type tree struct {
	memory
	n      scope.Names
	locals []int32
}

// returned is what a return gives back.
type returned struct{ v int32 }

// call runs a function, and answers what it returns.
func (r *tree) call(f api.Func, locals []int32) int32 {
	around := r.locals
	r.locals = append(slices.Clone(locals), make([]int32, len(r.n.Locals[r.number(f)])-len(locals))...)
	left := r.body(f.Body)
	r.locals = around
	if left == nil {
		r.tell(f.End, "end")
		return 0
	}
	return left.v
}

func (r *tree) number(f api.Func) int {
	return slices.IndexFunc(r.n.Prog.Funcs, func(other api.Func) bool { return other.At == f.At })
}

// body runs statements; what is answered is what was returned, if anything was.
func (r *tree) body(body []api.Stmt) *returned {
	for _, s := range body {
		if left := r.statement(s); left != nil {
			return left
		}
	}
	return nil
}

func (r *tree) statement(s api.Stmt) *returned {
	switch s.Op {
	case api.SIf:
		v := r.value(r.locals, s.E[0])
		r.tell(s.Line, "if", v)
		if v != 0 {
			return r.body(s.Body)
		}
		return r.body(s.Else)
	case api.SWhile:
		for {
			v := r.value(r.locals, s.E[0])
			r.tell(s.Line, "if", v)
			if v == 0 {
				return nil
			}
			if left := r.body(s.Body); left != nil {
				return left
			}
		}
	case api.SCrit:
		r.tell(s.Line, "enter")
		left := r.body(s.Body)
		if left == nil {
			r.tell(s.End, "leave")
		}
		return left
	case api.SReturn:
		v := int32(0)
		if len(s.E) > 0 {
			v = r.value(r.locals, s.E[0])
		}
		r.tell(s.Line, "return", v)
		return &returned{v}
	}
	r.simple(s)
	return nil
}

// simple runs a statement without others in it.
func (r *tree) simple(s api.Stmt) {
	switch s.Op {
	case api.SSleep:
		r.tell(s.Line, "sleep")
	case api.SHalt:
		r.tell(s.Line, "halt")
		panic(over{"halt"})
	case api.SOut:
		r.tell(s.Line, "out", s.Reg, r.value(r.locals, s.E[0]))
	case api.SIn:
		v := fold.Wrap(s.E[0].Type, int64(r.read()))
		r.tell(s.Line, "in", s.Reg, v)
		r.set(s.E[0], v)
	case api.SCall:
		r.callOf(s)
	case api.SCell:
		i := r.value(r.locals, s.E[0].Args[0])
		v := r.value(r.locals, s.E[1])
		at := s.E[0].Ref + r.within(i, int(s.E[0].N))
		r.tell(s.Line, "set", v)
		r.words[at] = v
	default:
		v := r.value(r.locals, s.E[1])
		r.tell(s.Line, "set", v)
		r.set(s.E[0], v)
	}
}

func (r *tree) callOf(s api.Stmt) {
	args := s.E
	if s.Name != "" {
		args = s.E[1:]
	}
	var locals []int32
	for _, arg := range args {
		locals = append(locals, r.value(r.locals, arg))
	}
	f := slices.IndexFunc(r.n.Prog.Funcs, func(f api.Func) bool { return f.Vector < 0 && f.Name == s.Func })
	r.tell(s.Line, "call", f, locals)
	v := r.call(r.n.Prog.Funcs[f], locals)
	if s.Name != "" {
		r.set(s.E[0], v)
	}
}

func (r *tree) set(target api.Expr, v int32) {
	if target.Op == api.ELocal {
		r.locals[target.Ref] = v
		return
	}
	r.words[target.Ref] = v
}

// steps runs a list, step by step.
type steps struct {
	memory
	t *testing.T
	l api.List
}

// call runs a unit, and answers what it returns.
func (r *steps) call(n int, args []int32) int32 {
	u := r.l.Units[n]
	locals := append(slices.Clone(args), make([]int32, len(u.Locals)-len(args))...)
	isSet := make([]bool, len(locals))
	for i := range args {
		isSet[i] = true
	}
	for at := 0; ; {
		if at < 0 || at >= len(u.Steps) {
			r.t.Fatalf("a step goes on at %d, of %d", at, len(u.Steps))
		}
		for i, l := range u.Locals {
			if l.From <= at && at < l.To && !isSet[i] {
				r.t.Fatalf("at the step %d of %s %s is in scope, and was not set", at, u.Name, l.Name)
			}
		}
		s := u.Steps[at]
		if s.Op == api.StepReturn || s.Op == api.StepEnd {
			return r.result(s, locals)
		}
		if s.Op == api.StepIf {
			v := r.value(locals, s.E[0])
			r.tell(s.Line, "if", v)
			if at = s.Next; v == 0 {
				at = s.Else
			}
			continue
		}
		r.step(s, locals)
		if s.Var >= 0 {
			isSet[s.Var] = true
		}
		at = s.Next
	}
}

func (r *steps) result(s api.Step, locals []int32) int32 {
	if s.Op == api.StepEnd {
		r.tell(s.Line, "end")
		return 0
	}
	v := int32(0)
	if len(s.E) > 0 {
		v = r.value(locals, s.E[0])
	}
	r.tell(s.Line, "return", v)
	return v
}

// step does a step that goes on at its Next.
func (r *steps) step(s api.Step, locals []int32) {
	var values []int32
	for _, e := range s.E {
		values = append(values, r.value(locals, e))
	}
	switch s.Op {
	case api.StepEnter:
		r.tell(s.Line, "enter")
	case api.StepLeave:
		r.tell(s.Line, "leave")
	case api.StepSleep:
		r.tell(s.Line, "sleep")
	case api.StepHalt:
		r.tell(s.Line, "halt")
		panic(over{"halt"})
	case api.StepOut:
		r.tell(s.Line, "out", s.Reg, values[0])
	case api.StepIn:
		v := fold.Wrap(s.Type, int64(r.read()))
		r.tell(s.Line, "in", s.Reg, v)
		r.put(s, locals, 0, v)
	case api.StepCall:
		r.tell(s.Line, "call", s.Func, values)
		r.put(s, locals, 0, r.call(s.Func, values))
	case api.StepSet:
		at := 0
		if s.Count > 0 {
			at = r.within(values[0], s.Count)
			values = values[1:]
		}
		r.tell(s.Line, "set", values[0])
		r.put(s, locals, at, values[0])
	}
}

// put puts a value where a step says, so far behind that.
func (r *steps) put(s api.Step, locals []int32, behind int, v int32) {
	if s.Var >= 0 {
		locals[s.Var] = v
	}
	if s.Addr >= 0 {
		r.words[s.Addr+behind] = v
	}
}

// P9.2: a list does what the program does: the same lines, the same values, step by step; of main, of handlers, and of functions by themselves.
func TestP92Runs(t *testing.T) {
	done, endings := 0, map[string]int{}
	for seed := range 250 {
		n, text, is := made(t, 1000000+seed, 2+seed%6)
		if !is {
			continue
		}
		if _, at := reckoned(n); at >= 0 {
			continue
		}
		l := listed(t, text, n)
		short := listed(t, text, folded(n))
		for i, f := range n.Prog.Funcs {
			args := make([]int32, len(f.Params))
			written := &tree{n: n, memory: memory{words: make([]int32, n.Size)}}
			want := written.ending(func() { written.call(f, args) })
			for _, l := range []api.List{l, short} {
				r := &steps{t: t, l: l, memory: memory{words: make([]int32, l.Size)}}
				got := r.ending(func() { r.call(i, args) })
				wantTold(t, text+" steps", r.told, written.told)
				wantTold(t, text+" ends", got, want)
				wantTold(t, text+" words", r.words, written.words)
			}
			endings[want]++
			done += len(written.told)
		}
		if t.Failed() {
			return
		}
	}
	if done < 10000 || len(endings) < 5 {
		t.Errorf("only %d steps, which ended %v", done, endings)
	}
}

// localsIn tells the numbers of all locals in an expression.
func localsIn(e api.Expr) []int {
	var all []int
	if e.Op == api.ELocal {
		all = append(all, e.Ref)
	}
	for _, arg := range e.Args {
		all = append(all, localsIn(arg)...)
	}
	return all
}

// P9.2: all that a step says of places and locals holds: it goes on at steps of its unit; locals are in scope where they are used, and each step but the first one can be come to, or stands behind one that goes on nowhere.
func TestP92Places(t *testing.T) {
	for seed := range 250 {
		n, text, is := made(t, 2000000+seed, 2+seed%7)
		if _, at := reckoned(n); !is || at >= 0 {
			continue
		}
		for _, u := range listed(t, text, n).Units {
			for i, s := range u.Steps {
				ends := s.Op == api.StepHalt || s.Op == api.StepReturn || s.Op == api.StepEnd
				if ends != (s.Next == -1) || !ends && (s.Next < 0 || s.Next >= len(u.Steps)) || (s.Op == api.StepIf) != (s.Else != -1) || s.Else < -1 || s.Else >= len(u.Steps) {
					t.Fatalf("%q: the step %d goes on at %d, %d", text, i, s.Next, s.Else)
				}
				for _, e := range s.E {
					for _, l := range localsIn(e) {
						if i < u.Locals[l].From || i >= u.Locals[l].To {
							t.Fatalf("%q: the step %d has the local %d, which is in scope from %d to %d", text, i, l, u.Locals[l].From, u.Locals[l].To)
						}
					}
				}
			}
			if last := u.Steps[len(u.Steps)-1]; last.Op != api.StepEnd {
				t.Fatalf("%q: the last step is %d", text, last.Op)
			}
		}
	}
}
