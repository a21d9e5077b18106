package print

import "plover/api"

// Bare answers a copy of a program, in which all places and lines are 0.
func Bare(p api.Prog) api.Prog {
	return api.Prog{
		Structs: each(p.Structs, bareStruct),
		Globals: each(p.Globals, bareGlobal),
		Funcs:   each(p.Funcs, bareFunc),
	}
}

// each answers a new list of all things, each changed; of an empty one nil.
func each[T any](all []T, change func(T) T) []T {
	var changed []T
	for _, thing := range all {
		changed = append(changed, change(thing))
	}
	return changed
}

func bareStruct(s api.Struct) api.Struct {
	s.At = 0
	s.Fields = each(s.Fields, bareParam)
	return s
}

func bareParam(p api.Param) api.Param {
	p.At = 0
	return p
}

func bareGlobal(g api.Global) api.Global {
	g.At = 0
	return g
}

func bareFunc(f api.Func) api.Func {
	f.At, f.Line, f.End = 0, 0, 0
	f.Params = each(f.Params, bareParam)
	f.Body = each(f.Body, bareStatement)
	return f
}

func bareStatement(s api.Stmt) api.Stmt {
	s.At, s.Line, s.End = 0, 0, 0
	s.E = each(s.E, bareExpression)
	s.Body = each(s.Body, bareStatement)
	s.Else = each(s.Else, bareStatement)
	return s
}

func bareExpression(e api.Expr) api.Expr {
	e.At = 0
	e.Args = each(e.Args, bareExpression)
	return e
}
