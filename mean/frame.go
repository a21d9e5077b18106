package mean

// none is a vector that is none.
const none = -1

// frame is a frame, and the priority at which it is: that of the innermost handler's frame from it down; 0, if there is none.
type frame struct {
	Frame
	level int
}

// alike answers a frame whose locals are its own.
func (f frame) alike() frame {
	f.Locals = copied(f.Locals)
	return f
}

// stack is frames, the outermost one first. A frame on it is never changed, so the stacks of a machine and its copies may share what they have in common.
type stack []frame

// cut answers the first n frames. It has no room behind them, where another stack may have frames of its own: what is laid on it makes it anew.
func (s stack) cut(n int) stack {
	return s[:n:n]
}

// call lays a new frame of a unit on those that there are; args are its first locals.
func (m *Machine) call(unit int, args []int32) {
	f := frame{Frame: Frame{Unit: unit, Vector: none, Locals: m.program.locals(unit)}, level: m.innermost.level}
	copy(f.Locals, args)
	m.push(f)
}

// enter lays a new frame of a vector's handler on those that there are.
func (m *Machine) enter(vector int) {
	h := m.program.handlers[vector]
	m.push(frame{
		Frame: Frame{Unit: h, Vector: vector, Asleep: m.isAsleep(), Locals: m.program.locals(h)},
		level: m.program.prios[vector],
	})
}

func (m *Machine) push(f frame) {
	m.below = append(m.below, m.innermost)
	m.innermost = f
}

// pop takes the innermost frame away, and answers it. The one below is to be changed again, so its locals are made its own.
func (m *Machine) pop() frame {
	gone, n := m.innermost, len(m.below)-1
	m.innermost = m.below[n].alike()
	m.below = m.below.cut(n)
	return gone
}
