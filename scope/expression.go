package scope

import (
	"slices"

	"plover/api"
)

// expression answers an expression resolved, or gives up.
func (b *block) expression(e api.Expr) api.Expr {
	switch e.Op {
	case api.EName, api.EElem, api.EField:
		m := b.meaningOf(e)
		e.Op, e.Type, e.Ref, e.N = m.op, m.typ, m.ref, int64(m.count)
	}
	e.Args = each(e.Args, b.expression)
	return e
}

// meaningOf answers what a name, an element, or a field means, or gives up.
func (b *block) meaningOf(e api.Expr) meaning {
	switch e.Op {
	case api.EElem:
		return b.need(array, e.Name, e.At)
	case api.EField:
		return fieldOf(b.need(structure, e.Name, e.At), e)
	}
	return b.need(number, e.Name, e.At)
}

// fieldOf answers what a field of a global means, or gives up.
func fieldOf(m meaning, e api.Expr) meaning {
	i := slices.IndexFunc(m.fields, func(field api.Param) bool { return field.Name == e.Field })
	if i < 0 {
		panic(fault(api.ErrName, e.At))
	}
	return meaning{sort: number, op: m.op, typ: m.fields[i].Type, ref: m.ref + i}
}
