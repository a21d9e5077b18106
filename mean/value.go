package mean

import (
	"plover/api"
	"plover/fold"
)

// trap is an outcome for which a step is given up.
type trap int

// value answers an expression's value in the innermost frame.
func (m *Machine) value(e *api.Expr) int32 {
	switch {
	case e.Op == api.ENum:
		return int32(e.N)
	case e.Op == api.ELocal:
		return m.innermost.Locals[e.Ref]
	case e.Op == api.EWord:
		return m.words[e.Ref]
	case e.Op == api.ECell:
		return m.words[element(e.Ref, m.value(&e.Args[0]), e.N)]
	case e.Op >= api.EMul && e.Op <= api.EOr:
		return m.ofTwo(e)
	}
	return fold.Un(e.Op, e.Type, m.value(&e.Args[0]))
}

// ofTwo answers what an operator of two values makes of them, the left one first.
func (m *Machine) ofTwo(e *api.Expr) int32 {
	a := m.value(&e.Args[0])
	b := m.value(&e.Args[1])
	v, is := fold.Bin(e.Op, e.Args[0].Type, a, b)
	if !is {
		panic(trap(api.TrapDiv))
	}
	return v
}

// element answers the address of the i-th element of an array of so many.
func element(addr int, i int32, count int64) int {
	if i < 0 || int64(i) >= count {
		panic(trap(api.TrapIndex))
	}
	return addr + int(i)
}
