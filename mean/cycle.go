package mean

import (
	"plover/api"
	"plover/bank"
	"plover/irq"
)

// cycle lets the devices go on, and then enters a handler, if one is to be taken, or does a step.
func (m *Machine) cycle() {
	m.goOn()
	v, is := irq.Choose(m.bank.Irq, m.program.prios, m.innermost.level, m.critical, m.mask)
	if !is {
		m.doStep()
		return
	}
	m.bank.Irq = irq.Taken(m.bank.Irq, v)
	m.tell(api.EvEnter, v, 0)
	m.enter(v)
}

// goOn lets what is outside come, and the devices tick.
func (m *Machine) goOn() {
	now := m.player.Next()
	m.mask = now.Mask
	m.bank = bank.Pins(m.bank, now.Pins)
	if now.IsByte {
		m.bank = bank.Arrive(m.bank, now.Byte)
	}
	m.bank, _, _ = bank.Tick(m.bank)
}

// doStep does the innermost frame's step. Values are found ahead of what the step changes, so where one can't be found, nothing changes.
func (m *Machine) doStep() {
	defer func() {
		switch left := recover().(type) {
		case nil:
		case trap:
			m.outcome = int(left)
		default:
			// Only a list that list never makes asks for what is not there.
			m.outcome = api.TrapCode
		}
	}()
	s := m.here()
	if s == nil {
		panic(trap(api.TrapCode))
	}
	byKind()[s.Op](m, s)
}

// tell writes down what the machine tells at this cycle.
func (m *Machine) tell(kind, a int, b int32) {
	m.events = append(m.events, api.Event{At: m.player.Cycle(), Kind: kind, A: a, B: b})
}

// here answers the innermost frame's step; nil, if there is none.
func (m *Machine) here() *api.Step {
	return m.program.step(m.innermost.Unit, m.innermost.Step)
}

// isAsleep tells whether the innermost frame's step is a sleep.
func (m *Machine) isAsleep() bool {
	s := m.here()
	return s != nil && s.Op == api.StepSleep
}
