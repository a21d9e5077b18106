package scope

import (
	"maps"

	"plover/api"
)

// statement answers a statement resolved, or gives up.
func (b *block) statement(s api.Stmt) api.Stmt {
	if s.Op == api.SReturn && b.isCritical {
		panic(fault(api.ErrCrit, s.At))
	}
	s.E = b.expressionsOf(s)
	s.Body, s.Else = b.inner(s.Body, s.Op), b.inner(s.Else, s.Op)
	return s
}

// expressionsOf answers a statement's expressions resolved, its target first, if it has one; or gives up.
func (b *block) expressionsOf(s api.Stmt) []api.Expr {
	target, values := targetOf(s)
	if s.Op == api.SVar {
		// Its own expression stands where its name is not in scope yet.
		values = each(values, b.expression)
		b.declare(s)
		return append(each(target, b.expression), values...)
	}
	resolved := each(target, b.expression)
	if s.Op == api.SCall {
		b.checkCalled(s)
	}
	return append(resolved, each(values, b.expression)...)
}

// targetOf answers a statement's target, if it has one, and the other expressions that it has; neither is resolved.
func targetOf(s api.Stmt) (target, values []api.Expr) {
	t := api.Expr{Op: api.EName, At: s.At, Name: s.Name, Field: s.Field}
	values = s.E
	switch s.Op {
	case api.SVar, api.SSet, api.SIn:
	case api.SCall:
		if s.Name == "" {
			return nil, values
		}
	case api.SField:
		t.Op = api.EField
	case api.SCell:
		indexes := min(1, len(s.E))
		t.Op, t.Args, values = api.EElem, s.E[:indexes], s.E[indexes:]
	default:
		return nil, values
	}
	return []api.Expr{t}, values
}

// declare adds the local of a var, or gives up.
func (b *block) declare(s api.Stmt) {
	b.needNew(s.Name, s.At)
	if b.unit.vars == api.MaxLocals {
		panic(fault(api.ErrMany, s.At))
	}
	b.unit.vars++
	b.addLocal(s.Name, s.Type)
}

// checkCalled gives up if a call's function can't be called.
func (b *block) checkCalled(s api.Stmt) {
	b.need(function, s.Func, s.At)
	if s.Func == mainName {
		panic(fault(api.ErrMain, s.At))
	}
}

// inner answers the statements of a statement's block resolved; or gives up. What they declare is in scope among them alone.
func (b *block) inner(body []api.Stmt, kind int) []api.Stmt {
	if len(body) == 0 {
		return nil
	}
	within := &block{unit: b.unit, inScope: maps.Clone(b.inScope), isCritical: b.isCritical || kind == api.SCrit}
	return each(body, within.statement)
}
