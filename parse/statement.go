package parse

import "plover/api"

// anyName stands for all names that are no words. No token has these bytes.
const anyName = "a name"

// beginnings tells by a statement's first token what reads it.
func beginnings() map[string]func(*parser) api.Stmt {
	return map[string]func(*parser) api.Stmt{
		"var":      (*parser).variable,
		anyName:    (*parser).named,
		"in":       (*parser).input,
		"out":      (*parser).output,
		"if":       (*parser).choice,
		"while":    (*parser).loop,
		"critical": (*parser).section,
		"sleep":    (*parser).sleep,
		"halt":     (*parser).halt,
		"return":   (*parser).giveBack,
	}
}

// statements reads a block's statements and its closing brace, and answers that one's line, too.
func (p *parser) statements() ([]api.Stmt, int) {
	var all []api.Stmt
	for !p.isAhead("}") {
		all = append(all, p.statement())
	}
	return all, p.take().Line
}

func (p *parser) statement() api.Stmt {
	first := p.ahead()
	begin := first.Text
	if isName(first) {
		begin = anyName
	}
	read, is := p.beginnings[begin]
	if !is {
		panic(p.misplaced())
	}
	s := read(p)
	s.At, s.Line = first.At, first.Line
	return s
}

// block reads a statement's block, and answers the line of its closing brace, too.
func (p *parser) block() (body []api.Stmt, end int) {
	p.deeper("{", func() { body, end = p.statements() })
	return body, end
}

func (p *parser) variable() api.Stmt {
	p.need("var")
	s := api.Stmt{Op: api.SVar, Name: p.name().Text}
	p.need(":")
	s.Type = p.numberType()
	s.E = p.assigned()
	return s
}

// assigned reads = and a value, up to the statement's end.
func (p *parser) assigned() []api.Expr {
	p.need("=")
	value := p.expression()
	p.need(";")
	return []api.Expr{value}
}

// named reads a statement that begins with a name: what that is, tells the token behind it.
func (p *parser) named() api.Stmt {
	name := p.take().Text
	switch p.ahead().Text {
	case "[":
		index := p.within("[", "]")
		return api.Stmt{Op: api.SCell, Name: name, E: append([]api.Expr{index}, p.assigned()...)}
	case ".":
		p.take()
		field := p.name().Text
		return api.Stmt{Op: api.SField, Name: name, Field: field, E: p.assigned()}
	case "(":
		return p.call(name)
	}
	if p.isResultAhead() {
		p.need("=")
		s := p.call(p.name().Text)
		s.Name = name
		return s
	}
	return api.Stmt{Op: api.SSet, Name: name, E: p.assigned()}
}

// isResultAhead tells whether = and the beginning of a call stand ahead.
func (p *parser) isResultAhead() bool {
	ahead := p.tokens[p.place:]
	return len(ahead) > 2 && ahead[0].Text == "=" && isName(ahead[1]) && ahead[2].Text == "("
}

// call reads a call's arguments, up to the statement's end.
func (p *parser) call(function string) api.Stmt {
	arguments := row(p, func(int) api.Expr { return p.expression() })
	p.need(";")
	return api.Stmt{Op: api.SCall, Func: function, E: arguments}
}

func (p *parser) input() api.Stmt {
	p.need("in")
	s := api.Stmt{Op: api.SIn, Name: p.name().Text}
	p.need("=")
	s.Reg = p.register()
	p.need(";")
	return s
}

func (p *parser) output() api.Stmt {
	p.need("out")
	register := p.register()
	return api.Stmt{Op: api.SOut, Reg: register, E: p.assigned()}
}

// register reads the two words of a register, and answers its number.
func (p *parser) register() int {
	device := p.ahead()
	if !isDevice(device.Text) {
		panic(p.misplaced())
	}
	p.take()
	p.need(".")
	if p.ahead().Kind != api.TokName {
		panic(p.misplaced())
	}
	words := device.Text + "." + p.take().Text
	for number, register := range registers {
		if register == words {
			return number
		}
	}
	panic(fault(api.ErrReg, device))
}

func (p *parser) choice() api.Stmt {
	p.need("if")
	s := api.Stmt{Op: api.SIf, E: p.condition()}
	s.Body, s.End = p.block()
	if p.isAhead("else") {
		p.take()
		s.Else, _ = p.block()
	}
	return s
}

func (p *parser) loop() api.Stmt {
	p.need("while")
	s := api.Stmt{Op: api.SWhile, E: p.condition()}
	s.Body, s.End = p.block()
	return s
}

func (p *parser) condition() []api.Expr {
	p.need("(")
	e := p.expression()
	p.need(")")
	return []api.Expr{e}
}

func (p *parser) section() api.Stmt {
	p.need("critical")
	s := api.Stmt{Op: api.SCrit}
	s.Body, s.End = p.block()
	return s
}

func (p *parser) sleep() api.Stmt {
	return p.alone("sleep", api.SSleep)
}

func (p *parser) halt() api.Stmt {
	return p.alone("halt", api.SHalt)
}

// alone reads a statement that is a word alone.
func (p *parser) alone(word string, kind int) api.Stmt {
	p.need(word)
	p.need(";")
	return api.Stmt{Op: kind}
}

func (p *parser) giveBack() api.Stmt {
	p.need("return")
	s := api.Stmt{Op: api.SReturn}
	if !p.isAhead(";") {
		s.E = []api.Expr{p.expression()}
	}
	p.need(";")
	return s
}
