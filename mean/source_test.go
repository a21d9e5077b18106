package mean_test

import (
	"slices"

	"plover/api"
	"plover/bank"
	"plover/scope"
	"plover/world"
)

// This is the tests' own machine: it runs a program as it is written, statement by statement, and a handler is run where it is entered, as if it were called there. So it knows of no steps, and of no frames but those that it writes down on the way.

// shadow is a frame, as it is written down.
type shadow struct {
	unit, line, vector int
	asleep             bool
	locals             []int32
}

// index is what there is behind some cycles.
type index struct {
	line     int
	frames   []shadow
	words    []int32
	bank     bank.Bank
	critical int
	mask     uint8
	events   int
}

// source runs a program.
type source struct {
	n        scope.Names
	in       []api.Input
	most     int
	cycle    int
	outcome  int
	indexes  []index
	words    []int32
	bank     bank.Bank
	critical int
	mask     uint8
	level    int
	frames   []*shadow
	events   []api.Event
}

// over is how a run is left.
type over struct{ outcome int }

// returned is what a return gives back.
type returned struct{ v int32 }

// sourceOf runs a program for up to so many cycles.
func sourceOf(n scope.Names, in []api.Input, most int) *source {
	s := &source{n: n, in: in, most: most, words: make([]int32, n.Size)}
	s.outcome = s.ending()
	if s.outcome != api.Running {
		s.keep()
	}
	return s
}

// ending runs main, and answers the outcome.
func (s *source) ending() (outcome int) {
	defer func() {
		switch left := recover().(type) {
		case nil:
		case over:
			outcome = left.outcome
		default:
			panic(left)
		}
	}()
	main := slices.IndexFunc(s.n.Prog.Funcs, func(f api.Func) bool { return f.Name == "main" && f.Vector < 0 })
	s.run(main, shadow{vector: -1}, nil)
	return api.Halted
}

// run runs a function or handler, and answers what it returns.
func (s *source) run(unit int, f shadow, args []int32) int32 {
	f.unit = unit
	f.locals = append(slices.Clone(args), make([]int32, len(s.n.Locals[unit])-len(args))...)
	s.frames = append(s.frames, &f)
	v := int32(0)
	left := s.body(s.n.Prog.Funcs[unit].Body)
	if left != nil {
		v = left.v
	} else {
		s.begin(s.n.Prog.Funcs[unit].End)
	}
	s.frames = s.frames[:len(s.frames)-1]
	return v
}

// keep writes down what there is.
func (s *source) keep() {
	i := index{words: slices.Clone(s.words), bank: s.bank, critical: s.critical, mask: s.mask, events: len(s.events)}
	if s.outcome != api.Halted {
		i.line = s.top().line
		for _, f := range s.frames {
			f := *f
			f.locals = slices.Clone(f.locals)
			i.frames = append(i.frames, f)
		}
	}
	s.indexes = append(s.indexes, i)
}

func (s *source) top() *shadow {
	return s.frames[len(s.frames)-1]
}

// begin does cycles till a line's step may be done: handlers that are entered ahead of it are run.
func (s *source) begin(line int) {
	for s.goOn(line, false) {
	}
}

// goOn does a cycle, and tells whether a handler was entered; that was run then.
func (s *source) goOn(line int, asleep bool) bool {
	s.top().line = line
	s.keep()
	if s.cycle == s.most {
		panic(over{api.Running})
	}
	s.cycle++
	now := world.At(s.in, s.cycle)
	s.mask = now.Mask
	s.bank = bank.Pins(s.bank, now.Pins)
	if now.IsByte {
		s.bank = bank.Arrive(s.bank, now.Byte)
	}
	s.bank, _, _ = bank.Tick(s.bank)
	h := s.taken()
	if h < 0 {
		return false
	}
	s.handle(h, asleep)
	return true
}

// taken answers the handler that is to be entered; -1, if none is.
func (s *source) taken() int {
	best := -1
	for i, f := range s.n.Prog.Funcs {
		if f.Vector < 0 || s.critical > 0 || f.Prio <= s.level {
			continue
		}
		bit := uint8(1 << f.Vector)
		if s.bank.Irq.Pend&bit == 0 || s.bank.Irq.Mask&bit == 0 || s.mask&bit != 0 {
			continue
		}
		if best >= 0 {
			b := s.n.Prog.Funcs[best]
			if b.Prio > f.Prio || b.Prio == f.Prio && b.Vector < f.Vector {
				continue
			}
		}
		best = i
	}
	return best
}

// handle runs a handler.
func (s *source) handle(unit int, asleep bool) {
	f := s.n.Prog.Funcs[unit]
	s.bank.Irq.Pend &^= 1 << f.Vector
	s.events = append(s.events, api.Event{At: s.cycle, Kind: api.EvEnter, A: f.Vector})
	around := s.level
	s.level = f.Prio
	s.run(unit, shadow{vector: f.Vector, asleep: asleep}, nil)
	s.level = around
	s.events = append(s.events, api.Event{At: s.cycle, Kind: api.EvExit, A: f.Vector})
}

// body runs statements; what is answered is what was returned, if anything was.
func (s *source) body(body []api.Stmt) *returned {
	for _, one := range body {
		if left := s.statement(one); left != nil {
			return left
		}
	}
	return nil
}

func (s *source) statement(one api.Stmt) *returned {
	if one.Op == api.SSleep {
		for !s.goOn(one.Line, true) {
		}
		return nil
	}
	s.begin(one.Line)
	switch one.Op {
	case api.SIf:
		if s.value(one.E[0]) != 0 {
			return s.body(one.Body)
		}
		return s.body(one.Else)
	case api.SWhile:
		for s.value(one.E[0]) != 0 {
			if left := s.body(one.Body); left != nil {
				return left
			}
			s.begin(one.Line)
		}
	case api.SCrit:
		s.critical++
		s.body(one.Body)
		s.begin(one.End)
		s.critical--
	case api.SHalt:
		panic(over{api.Halted})
	case api.SReturn:
		if len(one.E) == 0 {
			return &returned{0}
		}
		return &returned{s.value(one.E[0])}
	default:
		s.simple(one)
	}
	return nil
}

// simple runs a statement that goes on behind itself.
func (s *source) simple(one api.Stmt) {
	switch one.Op {
	case api.SOut:
		v := s.value(one.E[0])
		s.bank = bank.Write(s.bank, one.Reg, v)
		s.events = append(s.events, api.Event{At: s.cycle, Kind: api.EvWrite, A: one.Reg, B: v})
	case api.SIn:
		v, after := bank.Read(s.bank, one.Reg)
		s.bank = after
		s.put(one.E[0], int32(wrapped(one.E[0].Type, int64(v))))
	case api.SCall:
		s.called(one)
	case api.SCell:
		i := s.value(one.E[0].Args[0])
		v := s.value(one.E[1])
		s.words[one.E[0].Ref+within(i, one.E[0].N)] = v
	default:
		s.put(one.E[0], s.value(one.E[1]))
	}
}

func (s *source) called(one api.Stmt) {
	args := one.E
	if one.Name != "" {
		args = one.E[1:]
	}
	var values []int32
	for _, e := range args {
		values = append(values, s.value(e))
	}
	unit := slices.IndexFunc(s.n.Prog.Funcs, func(f api.Func) bool { return f.Name == one.Func && f.Vector < 0 })
	v := s.run(unit, shadow{vector: -1}, values)
	if one.Name != "" {
		s.put(one.E[0], v)
	}
}

func (s *source) put(target api.Expr, v int32) {
	if target.Op == api.ELocal {
		s.top().locals[target.Ref] = v
		return
	}
	s.words[target.Ref] = v
}

// within answers an index that is one of so many elements.
func within(i int32, n int64) int {
	if i < 0 || int64(i) >= n {
		panic(over{api.TrapIndex})
	}
	return int(i)
}

// value answers an expression's value.
func (s *source) value(e api.Expr) int32 {
	switch e.Op {
	case api.ENum:
		return int32(e.N)
	case api.ELocal:
		return s.top().locals[e.Ref]
	case api.EWord:
		return s.words[e.Ref]
	case api.ECell:
		return s.words[e.Ref+within(s.value(e.Args[0]), e.N)]
	}
	left := int64(s.value(e.Args[0]))
	if len(e.Args) == 1 {
		return int32(one(e.Op, e.Type, left))
	}
	v, is := two(e.Op, e.Args[0].Type, left, int64(s.value(e.Args[1])))
	if !is {
		panic(over{api.TrapDiv})
	}
	return int32(v)
}
