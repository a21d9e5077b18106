package fold

import (
	"slices"

	"plover/api"
)

// folder folds; it knows how many values each operator should have.
type folder struct {
	values map[int]int
}

func newFolder() *folder {
	f := &folder{values: map[int]int{}}
	for op := api.ENeg; op <= api.EW32; op++ {
		f.values[op] = 1
	}
	for op := api.EMul; op <= api.EOr; op++ {
		f.values[op] = 2
	}
	return f
}

func (f *folder) program(p api.Prog) api.Prog {
	return api.Prog{
		Structs: each(p.Structs, copied),
		Globals: slices.Clone(p.Globals),
		Funcs:   each(p.Funcs, f.function),
	}
}

func (f *folder) function(fn api.Func) api.Func {
	fn.Params = slices.Clone(fn.Params)
	fn.Body = each(fn.Body, f.statement)
	return fn
}

func (f *folder) statement(s api.Stmt) api.Stmt {
	s.E = each(s.E, f.expression)
	s.Body, s.Else = each(s.Body, f.statement), each(s.Else, f.statement)
	return s
}

func (f *folder) expression(e api.Expr) api.Expr {
	e.Args = each(e.Args, f.expression)
	if e.Op == api.ENum {
		e.N = int64(Wrap(e.Type, e.N))
		return e
	}
	if !f.isOfNumbers(e) {
		return e
	}
	if v, is := worked(e); is {
		return number(e, v)
	}
	return e
}

// isOfNumbers tells whether an expression is an operator that has as many values as it should, all of which are numbers.
func (f *folder) isOfNumbers(e api.Expr) bool {
	many, is := f.values[e.Op]
	return is && len(e.Args) == many && !slices.ContainsFunc(e.Args, isNoNumber)
}

// worked answers what an operator makes of its values, which are numbers of 32 bits at most; false of a division by 0.
func worked(e api.Expr) (int32, bool) {
	first := e.Args[0]
	if len(e.Args) == 1 {
		return Un(e.Op, e.Type, int32(first.N)), true
	}
	return Bin(e.Op, first.Type, int32(first.N), int32(e.Args[1].N))
}

// number answers the number that stands where an operator stood. It is wrapped as all numbers are, since an operator's type may be another one than that of its values where types were not checked; else folded again it would not stay.
func number(e api.Expr, v int32) api.Expr {
	return api.Expr{Op: api.ENum, At: e.At, Type: e.Type, N: int64(Wrap(e.Type, int64(v)))}
}

func isNoNumber(e api.Expr) bool {
	return e.Op != api.ENum
}

func copied(s api.Struct) api.Struct {
	s.Fields = slices.Clone(s.Fields)
	return s
}

// each answers a new list of all things, one behind the other made anew; of an empty one nil.
func each[T any](all []T, anew func(T) T) []T {
	var made []T
	for _, thing := range all {
		made = append(made, anew(thing))
	}
	return made
}
