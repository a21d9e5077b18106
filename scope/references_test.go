package scope_test

import "plover/api"

// isReference tells whether an expression is one that was resolved.
func isReference(op int) bool {
	return op == api.ELocal || op == api.EWord || op == api.ECell
}

// referencesOf answers what in statements was resolved, without what is in it, in the chapter's order: a target ahead of all others, but that of var behind them.
func referencesOf(body []api.Stmt) []api.Expr {
	var all []api.Expr
	for _, s := range body {
		if s.Op == api.SVar && len(s.E) > 0 {
			all = append(all, referencesWithin(s.E[1:])...)
			all = append(all, referencesWithin(s.E[:1])...)
		} else {
			all = append(all, referencesWithin(s.E)...)
		}
		all = append(all, referencesOf(s.Body)...)
		all = append(all, referencesOf(s.Else)...)
	}
	return all
}

func referencesWithin(list []api.Expr) []api.Expr {
	var all []api.Expr
	for _, e := range list {
		args := e.Args
		if isReference(e.Op) {
			e.Args = nil
			all = append(all, e)
		}
		all = append(all, referencesWithin(args)...)
	}
	return all
}

// unresolved undoes what the chapter says of a program resolved; what is left must be the program as it was.
func unresolved(p api.Prog) api.Prog {
	var funcs []api.Func
	for _, f := range p.Funcs {
		f.Body = unresolvedStatements(f.Body)
		funcs = append(funcs, f)
	}
	p.Funcs = funcs
	return p
}

func unresolvedStatements(body []api.Stmt) []api.Stmt {
	var all []api.Stmt
	for _, s := range body {
		e := s.E
		switch {
		case s.Op == api.SCell:
			e = append(append([]api.Expr{}, e[0].Args...), e[1:]...)
		case s.Op == api.SVar, s.Op == api.SSet, s.Op == api.SField, s.Op == api.SIn, s.Op == api.SCall && s.Name != "":
			e = e[1:]
		}
		s.E = unresolvedExpressions(e)
		s.Body, s.Else = unresolvedStatements(s.Body), unresolvedStatements(s.Else)
		all = append(all, s)
	}
	return all
}

func unresolvedExpressions(list []api.Expr) []api.Expr {
	var all []api.Expr
	for _, e := range list {
		if isReference(e.Op) {
			switch {
			case e.Op == api.ECell:
				e.Op = api.EElem
			case e.Field != "":
				e.Op = api.EField
			default:
				e.Op = api.EName
			}
			e.Ref, e.Type, e.N = 0, 0, 0
		}
		e.Args = unresolvedExpressions(e.Args)
		all = append(all, e)
	}
	return all
}
