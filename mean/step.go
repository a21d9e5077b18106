package mean

import (
	"plover/api"
	"plover/bank"
	"plover/fold"
)

// doer does a step of the innermost frame, and says where that goes on.
type doer func(*Machine, *api.Step)

// byKind tells by a step's kind what does it.
func byKind() [api.LastStep + 1]doer {
	return [...]doer{
		api.StepSet:    (*Machine).set,
		api.StepCall:   (*Machine).pass,
		api.StepIn:     (*Machine).read,
		api.StepOut:    (*Machine).write,
		api.StepIf:     (*Machine).choose,
		api.StepEnter:  (*Machine).begin,
		api.StepLeave:  (*Machine).end,
		api.StepSleep:  (*Machine).sleep,
		api.StepHalt:   (*Machine).halt,
		api.StepReturn: (*Machine).giveBack,
		api.StepEnd:    (*Machine).giveBack,
	}
}

func (m *Machine) set(s *api.Step) {
	if s.Count > 0 {
		i := m.value(&s.E[0])
		v := m.value(&s.E[1])
		m.words[element(s.Addr, i, int64(s.Count))] = v
	} else {
		m.put(s, m.value(&s.E[0]))
	}
	m.innermost.Step = s.Next
}

// pass calls a function. The caller stays at the call till that is back.
func (m *Machine) pass(s *api.Step) {
	if s.Func < 0 || s.Func >= len(m.program.units) {
		panic(trap(api.TrapCode))
	}
	args := make([]int32, len(s.E))
	for i := range s.E {
		args[i] = m.value(&s.E[i])
	}
	m.call(s.Func, args)
}

func (m *Machine) read(s *api.Step) {
	v, after := bank.Read(m.bank, s.Reg)
	m.bank = after
	m.put(s, fold.Wrap(s.Type, int64(v)))
	m.innermost.Step = s.Next
}

func (m *Machine) write(s *api.Step) {
	v := m.value(&s.E[0])
	m.bank = bank.Write(m.bank, s.Reg, v)
	m.tell(api.EvWrite, s.Reg, v)
	m.innermost.Step = s.Next
}

func (m *Machine) choose(s *api.Step) {
	if m.value(&s.E[0]) != 0 {
		m.innermost.Step = s.Next
	} else {
		m.innermost.Step = s.Else
	}
}

func (m *Machine) begin(s *api.Step) {
	m.critical++
	m.innermost.Step = s.Next
}

func (m *Machine) end(s *api.Step) {
	m.critical--
	m.innermost.Step = s.Next
}

// sleep stays where it is: only a handler that is taken here lets it go on.
func (m *Machine) sleep(*api.Step) {}

func (m *Machine) halt(*api.Step) {
	m.outcome = api.Halted
}

// giveBack ends the innermost frame. Where the one below goes on hangs on what laid that one on it.
func (m *Machine) giveBack(s *api.Step) {
	v := int32(0)
	if len(s.E) > 0 {
		v = m.value(&s.E[0])
	}
	if len(m.below) == 0 {
		m.outcome = api.Halted
		return
	}
	gone := m.pop()
	below := m.here()
	if gone.Vector == none {
		m.put(below, v)
		m.innermost.Step = below.Next
		return
	}
	m.tell(api.EvExit, gone.Vector, 0)
	if gone.Asleep {
		m.innermost.Step = below.Next
	}
}

// put puts a value where a step says, if it says so.
func (m *Machine) put(s *api.Step, v int32) {
	switch {
	case s.Var >= 0:
		m.innermost.Locals[s.Var] = v
	case s.Addr >= 0:
		m.words[s.Addr] = v
	}
}
