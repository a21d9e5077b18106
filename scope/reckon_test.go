package scope_test

import (
	"slices"

	"plover/api"
)

// reckoning is what a program must be resolved to: all its faults in the chapter's order, or what is known without a fault.
type reckoning struct {
	p          api.Prog
	faults     []api.Fault
	words      []api.Word
	size       int
	locals     [][]api.Local
	references [][]api.Expr
}

// What happens in a function: what is asked of a name there, or what else may be wrong.
const (
	askNumber = iota
	askArray
	askStruct
	askFunction
	newVar
	returning
)

// happening is one of these, with the row of blocks in which it stands, from the outermost to the innermost.
type happening struct {
	what        int
	name, field string
	at, typ     int
	path        []int
	critical    bool
}

func (r *reckoning) fault(code api.Errno, at int) {
	r.faults = append(r.faults, api.Fault{Code: code, At: at})
}

// sortOf tells of what sort a name of the program is: 's' a struct, 'n', 'a', 'g' a global (a number, an array, one of a struct), 'f' a function; 0 none.
func (r *reckoning) sortOf(name string) byte {
	for _, s := range r.p.Structs {
		if s.Name == name {
			return 's'
		}
	}
	for _, g := range r.p.Globals {
		switch {
		case g.Name != name:
		case g.Struct != "":
			return 'g'
		case g.Count > 0:
			return 'a'
		default:
			return 'n'
		}
	}
	for _, f := range r.p.Funcs {
		if f.Name == name && f.Vector < 0 {
			return 'f'
		}
	}
	return 0
}

// reckon goes through a program as the chapter does, and goes on behind faults.
func reckon(p api.Prog) *reckoning {
	r := &reckoning{p: p}
	var there []string
	isNew := func(name string, at int) {
		if slices.Contains(there, name) {
			r.fault(api.ErrTwice, at)
		}
		there = append(there, name)
	}
	for _, s := range p.Structs {
		isNew(s.Name, s.At)
		r.fields(s.Fields)
	}
	for _, g := range p.Globals {
		isNew(g.Name, g.At)
		r.global(g)
	}
	var vectors []int
	for _, f := range p.Funcs {
		if f.Vector < 0 {
			isNew(f.Name, f.At)
			continue
		}
		if slices.Contains(vectors, f.Vector) {
			r.fault(api.ErrTwice, f.At)
		}
		vectors = append(vectors, f.Vector)
	}
	r.main()
	for _, f := range p.Funcs {
		r.function(f)
	}
	return r
}

func (r *reckoning) fields(all []api.Param) {
	for i, field := range all {
		if slices.ContainsFunc(all[:i], func(other api.Param) bool { return other.Name == field.Name }) {
			r.fault(api.ErrTwice, field.At)
		}
	}
}

func (r *reckoning) global(g api.Global) {
	var all []api.Word
	switch {
	case g.Struct == "":
		all = append(all, api.Word{Name: g.Name, Type: g.Type, Count: g.Count})
	case r.sortOf(g.Struct) == 0:
		r.fault(api.ErrName, g.At)
	case r.sortOf(g.Struct) != 's':
		r.fault(api.ErrSort, g.At)
	default:
		for _, s := range r.p.Structs {
			if s.Name == g.Struct {
				for _, field := range s.Fields {
					all = append(all, api.Word{Name: g.Name + "." + field.Name, Type: field.Type})
				}
				break
			}
		}
	}
	for _, w := range all {
		w.Addr = r.size
		r.size += max(1, w.Count)
		r.words = append(r.words, w)
	}
	if r.size > 512 {
		r.fault(api.ErrMany, g.At)
	}
}

func (r *reckoning) main() {
	for _, f := range r.p.Funcs {
		if f.Vector < 0 && f.Name == "main" {
			if len(f.Params) > 0 || f.Result != api.NoType {
				r.fault(api.ErrMain, f.At)
			}
			return
		}
	}
	r.fault(api.ErrMain, 0)
}

func (r *reckoning) function(f api.Func) {
	var locals []api.Local
	for i, p := range f.Params {
		if r.sortOf(p.Name) != 0 || slices.ContainsFunc(f.Params[:i], func(other api.Param) bool { return other.Name == p.Name }) {
			r.fault(api.ErrTwice, p.At)
		}
		locals = append(locals, api.Local{Name: p.Name, Type: p.Type})
	}
	l := &lister{}
	l.statements(f.Body, nil, false)
	var references []api.Expr
	for i, h := range l.all {
		number := inScope(h, len(f.Params), locals, l.all[:i])
		if h.what == newVar {
			if number >= 0 || r.sortOf(h.name) != 0 {
				r.fault(api.ErrTwice, h.at)
			}
			if len(locals)-len(f.Params) >= 24 {
				r.fault(api.ErrMany, h.at)
			}
			number = len(locals)
			locals = append(locals, api.Local{Name: h.name, Type: h.typ})
		}
		if e, is := r.reference(h, number, locals); is {
			references = append(references, e)
		}
	}
	r.locals = append(r.locals, locals)
	r.references = append(r.references, references)
}

// inScope tells the number of the local that a name means at a place: a parameter, or a var ahead, in a block in which the place is; -1 if there is none.
func inScope(h happening, params int, locals []api.Local, ahead []happening) int {
	for i := range params {
		if locals[i].Name == h.name {
			return i
		}
	}
	number := params
	for _, other := range ahead {
		if other.what != newVar {
			continue
		}
		if other.name == h.name && len(other.path) <= len(h.path) && slices.Equal(other.path, h.path[:len(other.path)]) {
			return number
		}
		number++
	}
	return -1
}

// reference tells what an expression becomes, if it is one that is resolved, or what is wrong there.
func (r *reckoning) reference(h happening, local int, locals []api.Local) (api.Expr, bool) {
	e := api.Expr{Name: h.name, Field: h.field, At: h.at}
	if h.what == returning {
		if h.critical {
			r.fault(api.ErrCrit, h.at)
		}
		return e, false
	}
	if local >= 0 && (h.what == newVar || h.what == askNumber) {
		e.Op, e.Ref, e.Type = api.ELocal, local, locals[local].Type
		return e, true
	}
	sort := r.sortOf(h.name)
	switch {
	case local < 0 && sort == 0:
		r.fault(api.ErrName, h.at)
	case local >= 0 || sort != "nagf"[h.what]:
		r.fault(api.ErrSort, h.at)
	case h.what == askFunction:
		if h.name == "main" {
			r.fault(api.ErrMain, h.at)
		}
	default:
		return r.globalReference(e, h)
	}
	return e, false
}

// globalReference finds a global's word by its name, a field's by that of both.
func (r *reckoning) globalReference(e api.Expr, h happening) (api.Expr, bool) {
	name := h.name
	e.Op = api.EWord
	if h.what == askStruct {
		name += "." + h.field
	}
	for _, w := range r.words {
		if w.Name == name {
			e.Ref, e.Type = w.Addr, w.Type
			if h.what == askArray {
				e.Op, e.N = api.ECell, int64(w.Count)
			}
			return e, true
		}
	}
	r.fault(api.ErrName, h.at)
	return e, false
}

// lister lists what happens in a function, in the chapter's order.
type lister struct {
	all    []happening
	blocks int
}

func (l *lister) add(what int, name, field string, at int, path []int) {
	l.all = append(l.all, happening{what: what, name: name, field: field, at: at, path: path})
}

func (l *lister) statements(body []api.Stmt, path []int, critical bool) {
	for _, s := range body {
		rest := s.E
		switch s.Op {
		case api.SReturn:
			l.all = append(l.all, happening{what: returning, at: s.At, critical: critical})
		case api.SSet, api.SIn:
			l.add(askNumber, s.Name, "", s.At, path)
		case api.SField:
			l.add(askStruct, s.Name, s.Field, s.At, path)
		case api.SCell:
			l.add(askArray, s.Name, "", s.At, path)
		case api.SCall:
			if s.Name != "" {
				l.add(askNumber, s.Name, "", s.At, path)
			}
			l.add(askFunction, s.Func, "", s.At, path)
		}
		l.expressions(rest, path)
		if s.Op == api.SVar {
			l.all = append(l.all, happening{what: newVar, name: s.Name, at: s.At, typ: s.Type, path: path})
		}
		for _, inner := range [][]api.Stmt{s.Body, s.Else} {
			l.blocks++
			l.statements(inner, append(slices.Clone(path), l.blocks), critical || s.Op == api.SCrit)
		}
	}
}

func (l *lister) expressions(list []api.Expr, path []int) {
	for _, e := range list {
		switch e.Op {
		case api.EName:
			l.add(askNumber, e.Name, "", e.At, path)
		case api.EElem:
			l.add(askArray, e.Name, "", e.At, path)
		case api.EField:
			l.add(askStruct, e.Name, e.Field, e.At, path)
		}
		l.expressions(e.Args, path)
	}
}
