package scope

import (
	"slices"

	"plover/api"
)

// mainName is the name of the function with which a program begins.
const mainName = "main"

// declare gathers what a program's names mean, and lays its words; or gives up.
func (r *resolver) declare(p api.Prog) {
	for _, s := range p.Structs {
		r.meanings.needNew(s.Name, s.At)
		r.meanings[s.Name] = meaning{sort: shape, fields: s.Fields}
		checkFields(s.Fields)
	}
	for _, g := range p.Globals {
		r.meanings.needNew(g.Name, g.At)
		r.meanings[g.Name] = r.global(g, p)
	}
	for i, f := range p.Funcs {
		if isHandler(f) {
			checkVector(f, p.Funcs[:i])
			continue
		}
		r.meanings.needNew(f.Name, f.At)
		r.meanings[f.Name] = meaning{sort: function}
	}
}

// checkFields gives up if two fields have one name.
func checkFields(all []api.Param) {
	ahead := meanings{}
	for _, field := range all {
		ahead.needNew(field.Name, field.At)
		ahead[field.Name] = meaning{sort: number}
	}
}

// global answers what a global's name means, and lays its words; or gives up.
func (r *resolver) global(g api.Global, p api.Prog) meaning {
	m := meaning{sort: number, op: api.EWord, typ: g.Type, ref: r.size}
	if g.Struct != "" {
		m.sort, m.fields = structure, r.fieldsOf(g, p)
		for _, field := range m.fields {
			r.lay(api.Word{Name: g.Name + "." + field.Name, Type: field.Type}, g.At)
		}
		return m
	}
	if g.Count > 0 {
		m.sort, m.op, m.count = array, api.ECell, g.Count
	}
	r.lay(api.Word{Name: g.Name, Type: g.Type, Count: m.count}, g.At)
	return m
}

// fieldsOf answers the fields of the struct of which a global is, or gives up. All structs must be known by then.
func (r *resolver) fieldsOf(g api.Global, p api.Prog) []api.Param {
	if m := r.meanings[g.Struct]; m.sort == shape {
		return m.fields
	}
	if isOther(g.Struct, p) {
		panic(fault(api.ErrSort, g.At))
	}
	panic(fault(api.ErrName, g.At))
}

// isOther tells whether a program has a global, or a function, of that name, be it behind what is known yet.
func isOther(name string, p api.Prog) bool {
	return slices.ContainsFunc(p.Globals, func(g api.Global) bool { return g.Name == name }) ||
		slices.ContainsFunc(p.Funcs, func(f api.Func) bool { return isFunction(f, name) })
}

// lay gives a word, or the words of an array, the place behind all others; or gives up, at its global's place.
func (r *resolver) lay(w api.Word, at int) {
	many := max(1, w.Count)
	if many > api.MaxGlobals-r.size {
		panic(fault(api.ErrMany, at))
	}
	w.Addr = r.size
	r.words = append(r.words, w)
	r.size += many
}

// checkVector gives up if one of the handlers ahead has the same vector.
func checkVector(f api.Func, ahead []api.Func) {
	if slices.ContainsFunc(ahead, func(other api.Func) bool { return other.Vector == f.Vector }) {
		panic(fault(api.ErrTwice, f.At))
	}
}

// checkMain gives up if there is no main, or not as it must be.
func checkMain(all []api.Func) {
	i := slices.IndexFunc(all, func(f api.Func) bool { return isFunction(f, mainName) })
	if i < 0 {
		panic(fault(api.ErrMain, 0))
	}
	if f := all[i]; len(f.Params) > 0 || f.Result != api.NoType {
		panic(fault(api.ErrMain, f.At))
	}
}

func isHandler(f api.Func) bool {
	return f.Vector >= 0
}

// isFunction tells whether that is the function of that name; handlers have none.
func isFunction(f api.Func, name string) bool {
	return !isHandler(f) && f.Name == name
}
