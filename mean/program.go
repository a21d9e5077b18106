package mean

import "plover/api"

// program is what cycles go by, and never change: a machine and its copies share it.
type program struct {
	units    []unit
	size     int              // how many words there are
	prios    [api.Vectors]int // of handlers, by their vectors; 0, if there is none
	handlers [api.Vectors]int // their units
}

// unit is a function, or a handler: how many locals it has, and its steps.
type unit struct {
	locals int
	steps  []api.Step
}

// programOf answers what is asked of a list, and shares nothing with that.
func programOf(l api.List) *program {
	p := &program{size: max(0, min(l.Size, api.MaxGlobals))}
	for i, u := range l.Units {
		p.units = append(p.units, unit{locals: len(u.Locals), steps: stepsOf(u)})
		if u.Vector >= 0 && u.Vector < api.Vectors {
			p.prios[u.Vector], p.handlers[u.Vector] = u.Prio, i
		}
	}
	return p
}

// locals answers a value for each of a unit's locals, all of them 0.
func (p *program) locals(unit int) []int32 {
	if unit < 0 || unit >= len(p.units) {
		return nil
	}
	return make([]int32, p.units[unit].locals)
}

// step answers a step; nil, if there is none.
func (p *program) step(unit, at int) *api.Step {
	if unit < 0 || unit >= len(p.units) || at < 0 || at >= len(p.units[unit].steps) {
		return nil
	}
	return &p.units[unit].steps[at]
}

// stepsOf answers a unit's steps, which share nothing with these.
func stepsOf(u api.Unit) []api.Step {
	steps := copied(u.Steps)
	for i := range steps {
		steps[i].E = expressions(steps[i].E)
	}
	return steps
}

// expressions answers expressions that share nothing with these.
func expressions(all []api.Expr) []api.Expr {
	made := copied(all)
	for i := range made {
		made[i].Args = expressions(made[i].Args)
	}
	return made
}
