package parse

import "plover/api"

// How many of these there may be at most.
const (
	maxStructs = 16
	maxFields  = 16
	maxGlobals = 100
)

// program reads all parts, up to the end.
func (p *parser) program() api.Prog {
	var prog api.Prog
	for p.ahead().Kind != api.TokEnd {
		switch p.ahead().Text {
		case "struct":
			prog.Structs = append(prog.Structs, p.structure(len(prog.Structs)))
		case "var":
			prog.Globals = append(prog.Globals, p.global(len(prog.Globals)))
		case "fn", "on":
			prog.Funcs = append(prog.Funcs, p.unit(len(prog.Funcs)))
		default:
			panic(p.misplaced())
		}
	}
	return prog
}

func (p *parser) structure(have int) api.Struct {
	p.need("struct")
	name := p.newName(have, maxStructs)
	s := api.Struct{Name: name.Text, At: name.At}
	p.need("{")
	for len(s.Fields) == 0 || !p.isAhead("}") {
		s.Fields = append(s.Fields, p.typedName(len(s.Fields), maxFields))
		p.need(";")
	}
	p.need("}")
	return s
}

// typedName reads a field, or a parameter.
func (p *parser) typedName(have, most int) api.Param {
	name := p.newName(have, most)
	p.need(":")
	return api.Param{Name: name.Text, Type: p.numberType(), At: name.At}
}

func (p *parser) global(have int) api.Global {
	p.need("var")
	name := p.newName(have, maxGlobals)
	g := api.Global{Name: name.Text, At: name.At}
	p.need(":")
	if isName(p.ahead()) {
		g.Struct = p.take().Text
	} else {
		g.Type = p.numberType()
		g.Count = p.count()
	}
	p.need(";")
	return g
}

// count reads how many elements there are, if that is told.
func (p *parser) count() int {
	if !p.isAhead("[") {
		return 0
	}
	p.take()
	n := p.number(1, api.MaxArray)
	p.need("]")
	return n
}

// unit reads a function, or a handler.
func (p *parser) unit(have int) api.Func {
	first := p.ahead()
	if have >= api.MaxFuncs {
		panic(fault(api.ErrMany, first))
	}
	f := p.head()
	f.At, f.Line = first.At, first.Line
	p.need("{")
	f.Body, f.End = p.statements()
	return f
}

// head reads what stands ahead of a function's, or a handler's, block.
func (p *parser) head() api.Func {
	if p.isAhead("on") {
		return p.handlerHead()
	}
	p.need("fn")
	f := api.Func{Name: p.name().Text, Vector: -1}
	f.Params = row(p, func(have int) api.Param { return p.typedName(have, api.MaxParams) })
	if p.isAhead(":") {
		p.take()
		f.Result = p.numberType()
	}
	return f
}

func (p *parser) handlerHead() api.Func {
	p.need("on")
	vector := p.number(0, api.Vectors-1)
	p.need("priority")
	return api.Func{Vector: vector, Prio: p.number(1, api.MaxPrio)}
}
