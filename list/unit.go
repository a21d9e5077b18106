package list

import "plover/api"

// unit builds a unit, which it embeds.
type unit struct {
	api.Unit
	program  *program
	declared []int // the locals of the block that is gone through, so far
}

// later is told a place that is not known yet, once it is.
type later func(place int)

// body lists a function's statements, and its end.
func (u *unit) body(f api.Func) {
	u.within(func() later {
		goesOn := u.statements(f.Body, nowhere)
		goesOn(u.add(api.StepEnd, f.End))
		return nowhere
	})
}

// block lists a block; its first step's place, or that where its end goes on, is told to from. What it answers waits for where its end goes on.
func (u *unit) block(body []api.Stmt, from later) later {
	return u.within(func() later { return u.statements(body, from) })
}

// within lists what is in a block: behind the last step of it the locals that it declares are in scope no more.
func (u *unit) within(lists func() later) later {
	around := u.declared
	u.declared = nil
	goesOn := lists()
	for _, local := range u.declared {
		u.Locals[local].To = len(u.Steps)
	}
	u.declared = around
	return goesOn
}

// statements lists one statement behind the other. A statement that makes no steps leaves what waits for its place to the next one.
func (u *unit) statements(body []api.Stmt, from later) later {
	waits := from
	for _, s := range body {
		list, is := u.program.listers[s.Op]
		if !is {
			continue
		}
		waits(len(u.Steps))
		waits = list(u, s)
	}
	return waits
}

// declare puts a var's local in scope, from the next step on.
func (u *unit) declare(local int) {
	if local < 0 || local >= len(u.Locals) {
		return
	}
	u.Locals[local].From = len(u.Steps)
	u.declared = append(u.declared, local)
}

// add adds a step, which so far goes on nowhere and sets nothing, and answers its place.
func (u *unit) add(op, line int) int {
	u.Steps = append(u.Steps, api.Step{Op: op, Line: line, Var: -1, Addr: -1, Next: -1, Else: -1})
	return len(u.Steps) - 1
}

// next waits for where a step goes on.
func (u *unit) next(at int) later {
	return func(place int) { u.Steps[at].Next = place }
}

// otherwise waits for where a step goes on if its condition is 0.
func (u *unit) otherwise(at int) later {
	return func(place int) { u.Steps[at].Else = place }
}

// both tells a place to two that wait for it.
func both(a, b later) later {
	return func(place int) {
		a(place)
		b(place)
	}
}

// nowhere waits for no place.
func nowhere(int) {}
