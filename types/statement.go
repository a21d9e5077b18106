package types

import "plover/api"

// unit is a function, or a handler, that is gone through.
type unit struct {
	program *program
	result  int // the type of what it returns, if it returns anything
}

// statementCheck answers a statement's own expressions checked, or gives up.
type statementCheck func(*unit, api.Stmt) []api.Expr

// byKind tells by a statement's kind what checks it; those of other kinds have no expressions.
func byKind() map[int]statementCheck {
	return map[int]statementCheck{
		api.SVar:    (*unit).set,
		api.SSet:    (*unit).set,
		api.SCell:   (*unit).set,
		api.SField:  (*unit).set,
		api.SCall:   (*unit).call,
		api.SIn:     (*unit).either,
		api.SOut:    (*unit).either,
		api.SIf:     (*unit).either,
		api.SWhile:  (*unit).either,
		api.SReturn: (*unit).giveBack,
	}
}

// statement answers a statement checked, and those in it; or gives up.
func (u *unit) statement(s api.Stmt) api.Stmt {
	check, is := u.program.checks[s.Op]
	if !is {
		check = (*unit).either
	}
	s.E = check(u, s)
	s.Body, s.Else = each(s.Body, u.statement), each(s.Else, u.statement)
	return s
}

// either checks what may be of either type.
func (u *unit) either(s api.Stmt) []api.Expr {
	return each(s.E, ofEither)
}

// set checks a target, and behind it the value that it is set to.
func (u *unit) set(s api.Stmt) []api.Expr {
	all := each(s.E[:min(1, len(s.E))], ofEither)
	for _, value := range s.E[len(all):] {
		all = append(all, ofType(value, all[0].Type))
	}
	return all
}

// call checks a target, if there is one, and the arguments behind it.
func (u *unit) call(s api.Stmt) []api.Expr {
	f := u.program.called[s.Func]
	targets := 0
	if s.Name != "" {
		targets = min(1, len(s.E))
	}
	all := each(s.E[:targets], ofEither)
	arguments := s.E[targets:]
	if len(arguments) != len(f.Params) {
		panic(fault(api.ErrCount, s.At))
	}
	for i, argument := range arguments {
		all = append(all, ofType(argument, f.Params[i].Type))
	}
	for _, target := range all[:targets] {
		checkResult(f, target, s.At)
	}
	return all
}

// checkResult gives up, at that place, if a call's target can't be set to what the function returns.
func checkResult(f api.Func, target api.Expr, at int) {
	if f.Result == api.NoType {
		panic(fault(api.ErrValue, at))
	}
	if f.Result != target.Type {
		panic(fault(api.ErrType, at))
	}
}

// giveBack checks what is returned.
func (u *unit) giveBack(s api.Stmt) []api.Expr {
	hasValue, needsValue := len(s.E) > 0, u.result != api.NoType
	if hasValue != needsValue {
		panic(fault(api.ErrValue, s.At))
	}
	return each(s.E, func(value api.Expr) api.Expr { return ofType(value, u.result) })
}
