package list

import "plover/api"

// lister adds a statement's steps, and answers what waits for where the statement goes on.
type lister func(*unit, api.Stmt) later

// byKind tells by a statement's kind what lists it.
func byKind() map[int]lister {
	return map[int]lister{
		api.SVar:    (*unit).variable,
		api.SSet:    (*unit).set,
		api.SCell:   (*unit).set,
		api.SField:  (*unit).set,
		api.SCall:   (*unit).call,
		api.SIn:     (*unit).input,
		api.SOut:    (*unit).output,
		api.SIf:     (*unit).choice,
		api.SWhile:  (*unit).loop,
		api.SCrit:   (*unit).critical,
		api.SSleep:  (*unit).sleep,
		api.SHalt:   (*unit).halt,
		api.SReturn: (*unit).giveBack,
	}
}

func (u *unit) variable(s api.Stmt) later {
	goesOn := u.set(s)
	if len(s.E) > 0 {
		u.declare(s.E[0].Ref)
	}
	return goesOn
}

func (u *unit) set(s api.Stmt) later {
	at := u.add(api.StepSet, s.Line)
	u.aim(at, s.E)
	return u.next(at)
}

func (u *unit) call(s api.Stmt) later {
	at := u.add(api.StepCall, s.Line)
	u.Steps[at].Func = u.program.numbers[s.Func]
	if s.Name == "" {
		u.Steps[at].E = each(s.E, copied)
	} else {
		u.aim(at, s.E)
	}
	return u.next(at)
}

func (u *unit) input(s api.Stmt) later {
	at := u.add(api.StepIn, s.Line)
	u.Steps[at].Reg = s.Reg
	u.aim(at, s.E)
	return u.next(at)
}

func (u *unit) output(s api.Stmt) later {
	at := u.add(api.StepOut, s.Line)
	u.Steps[at].Reg, u.Steps[at].E = s.Reg, each(s.E, copied)
	return u.next(at)
}

func (u *unit) choice(s api.Stmt) later {
	at := u.condition(s)
	goesOn := u.block(s.Body, u.next(at))
	return both(goesOn, u.block(s.Else, u.otherwise(at)))
}

func (u *unit) loop(s api.Stmt) later {
	at := u.condition(s)
	again := u.block(s.Body, u.next(at))
	again(at)
	return u.otherwise(at)
}

func (u *unit) condition(s api.Stmt) int {
	at := u.add(api.StepIf, s.Line)
	u.Steps[at].E = each(s.E, copied)
	return at
}

// critical lists its end within its block, for there the block's locals are in scope still.
func (u *unit) critical(s api.Stmt) later {
	enter := u.add(api.StepEnter, s.Line)
	return u.within(func() later {
		goesOn := u.statements(s.Body, u.next(enter))
		leave := u.add(api.StepLeave, s.End)
		goesOn(leave)
		return u.next(leave)
	})
}

func (u *unit) sleep(s api.Stmt) later {
	return u.next(u.add(api.StepSleep, s.Line))
}

func (u *unit) halt(s api.Stmt) later {
	u.add(api.StepHalt, s.Line)
	return nowhere
}

func (u *unit) giveBack(s api.Stmt) later {
	at := u.add(api.StepReturn, s.Line)
	u.Steps[at].E = each(s.E, copied)
	return nowhere
}

// aim says where a step's value goes to: the first one of these, a target, tells it. What the value is made of are the others, and ahead of them the index of an element.
func (u *unit) aim(at int, all []api.Expr) {
	if len(all) == 0 {
		return
	}
	step, target := &u.Steps[at], all[0]
	step.Type = target.Type
	switch target.Op {
	case api.ELocal:
		step.Var = target.Ref
	case api.EWord:
		step.Addr = target.Ref
	case api.ECell:
		step.Addr, step.Count = target.Ref, int(target.N)
		step.E = each(target.Args, copied)
	}
	step.E = append(step.E, each(all[1:], copied)...)
}

// copied answers an expression that shares no list with that one.
func copied(e api.Expr) api.Expr {
	e.Args = each(e.Args, copied)
	return e
}
