package list_test

import (
	"fmt"

	"plover/api"
	"plover/scope"
)

// reckoning reckons a unit's steps from the numbers of steps that statements have: so each place is known when it is asked for.
type reckoning struct {
	n      scope.Names
	locals []api.Local
	steps  []api.Step
}

// stepsOf tells how many steps a body has.
func stepsOf(body []api.Stmt) int {
	steps := 0
	for _, s := range body {
		steps += 1 + stepsOf(s.Body) + stepsOf(s.Else)
		if s.Op == api.SCrit {
			steps++
		}
	}
	return steps
}

// reckoned tells the list of names, or where a fault is (else -1).
func reckoned(n scope.Names) (api.List, int) {
	l := api.List{Words: n.Words, Size: n.Size}
	all := 0
	for i, f := range n.Prog.Funcs {
		all += stepsOf(f.Body) + 1
		if all > 400 {
			return api.List{}, f.At
		}
		u := api.Unit{Name: f.Name, Vector: f.Vector, Prio: f.Prio, Params: len(f.Params), Result: f.Result}
		if f.Vector >= 0 {
			u.Name = fmt.Sprintf("on %d", f.Vector)
		} else if f.Name == "main" {
			l.Main = i
		}
		r := &reckoning{n: n, locals: append([]api.Local{}, n.Locals[i]...)}
		end := stepsOf(f.Body)
		r.body(f.Body, end, end+1)
		r.add(api.Step{Op: api.StepEnd, Line: f.End}, -1)
		for p := range f.Params {
			r.locals[p].To = len(r.steps)
		}
		u.Locals, u.Steps = r.locals, r.steps
		l.Units = append(l.Units, u)
	}
	return l, -1
}

// body adds the steps of a block whose end goes on there, and whose locals are in scope below that step.
func (r *reckoning) body(body []api.Stmt, end, below int) {
	for i, s := range body {
		next := end
		if i+1 < len(body) {
			next = len(r.steps) + stepsOf(body[i:i+1])
		}
		if s.Op == api.SVar {
			l := &r.locals[s.E[0].Ref]
			l.From, l.To = len(r.steps)+1, below
		}
		r.statement(s, next)
	}
}

// statement adds the steps of a statement that goes on there.
func (r *reckoning) statement(s api.Stmt, next int) {
	at := len(r.steps)
	step := api.Step{Line: s.Line, E: s.E, Reg: s.Reg}
	inner, behind := at+1, at+1+stepsOf(s.Body)
	switch s.Op {
	case api.SIf:
		step.Op, step.Else = api.StepIf, next
		first := next
		if len(s.Body) > 0 {
			first = inner
		}
		if len(s.Else) > 0 {
			step.Else = behind
		}
		r.put(step, first, step.Else)
		r.body(s.Body, next, behind)
		r.body(s.Else, next, behind+stepsOf(s.Else))
	case api.SWhile:
		step.Op = api.StepIf
		first := at
		if len(s.Body) > 0 {
			first = inner
		}
		r.put(step, first, next)
		r.body(s.Body, at, behind)
	case api.SCrit:
		r.add(api.Step{Op: api.StepEnter, Line: s.Line}, at+1)
		r.body(s.Body, behind, behind+1)
		r.add(api.Step{Op: api.StepLeave, Line: s.End}, next)
	default:
		r.simple(s, step, next)
	}
}

// simple adds the step of a statement without others in it.
func (r *reckoning) simple(s api.Stmt, step api.Step, next int) {
	switch s.Op {
	case api.SSleep:
		step.Op = api.StepSleep
	case api.SHalt:
		step.Op, next = api.StepHalt, -1
	case api.SReturn:
		step.Op, next = api.StepReturn, -1
	case api.SOut:
		step.Op = api.StepOut
	case api.SCall:
		step.Op = api.StepCall
		for i, f := range r.n.Prog.Funcs {
			if f.Vector < 0 && f.Name == s.Func {
				step.Func = i
			}
		}
	case api.SIn:
		step.Op = api.StepIn
	}
	if s.Op == api.SVar || s.Op == api.SSet || s.Op == api.SField || s.Op == api.SCell || s.Op == api.SIn || s.Op == api.SCall && s.Name != "" {
		r.setting(s, step, next)
		return
	}
	r.add(step, next)
}

// setting adds a step that sets something.
func (r *reckoning) setting(s api.Stmt, step api.Step, next int) {
	target := s.E[0]
	step.Type, step.E = target.Type, s.E[1:]
	step.Var, step.Addr, step.Next, step.Else = -1, target.Ref, next, -1
	if target.Op == api.ELocal {
		step.Var, step.Addr = target.Ref, -1
	}
	if target.Op == api.ECell {
		step.Count = int(target.N)
		step.E = append([]api.Expr{target.Args[0]}, step.E...)
	}
	r.steps = append(r.steps, step)
}

// add adds a step that sets nothing, and has one way to go on.
func (r *reckoning) add(step api.Step, next int) {
	r.put(step, next, -1)
}

func (r *reckoning) put(step api.Step, next, otherwise int) {
	step.Var, step.Addr, step.Next, step.Else = -1, -1, next, otherwise
	r.steps = append(r.steps, step)
}
