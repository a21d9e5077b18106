package scope

import (
	"slices"

	"plover/api"
)

// unit is a function, or a handler, that is gone through.
type unit struct {
	program meanings
	locals  []api.Local // those that stand ahead
	vars    int         // how many of these are no parameters
}

// block is a block of a unit, and what is known at the place in it that is come to.
type block struct {
	unit       *unit
	inScope    meanings // of locals
	isCritical bool     // whether it is within a critical
}

// function answers a function, or a handler, resolved, and its locals; or gives up.
func (r *resolver) function(f api.Func) (api.Func, []api.Local) {
	b := &block{unit: &unit{program: r.meanings}, inScope: meanings{}}
	for _, p := range f.Params {
		b.needNew(p.Name, p.At)
		b.addLocal(p.Name, p.Type)
	}
	f.Params = slices.Clone(f.Params)
	f.Body = each(f.Body, b.statement)
	return f, b.unit.locals
}

// needNew gives up if a name is one of the program's, or of a local in scope.
func (b *block) needNew(name string, at int) {
	b.unit.program.needNew(name, at)
	b.inScope.needNew(name, at)
}

// addLocal adds a local, which is in scope from here on.
func (b *block) addLocal(name string, typ int) {
	b.inScope[name] = meaning{sort: number, op: api.ELocal, typ: typ, ref: len(b.unit.locals)}
	b.unit.locals = append(b.unit.locals, api.Local{Name: name, Type: typ})
}

// need answers what a name means, or gives up if that is nothing, or of another sort.
func (b *block) need(of sort, name string, at int) meaning {
	m, is := b.inScope[name]
	if !is {
		m, is = b.unit.program[name]
	}
	if !is {
		panic(fault(api.ErrName, at))
	}
	if m.sort != of {
		panic(fault(api.ErrSort, at))
	}
	return m
}
