package parse

import "plover/api"

// operator is an operator of two values: what it makes, and how closely it binds.
type operator struct {
	kind, binds int
}

// loosest is how closely those operators bind that bind least.
const loosest = 1

// operators tells the operators of two values by their marks.
func operators() map[string]operator {
	return map[string]operator{
		"*": {api.EMul, 7}, "/": {api.EDiv, 7}, "%": {api.ERem, 7},
		"+": {api.EAdd, 6}, "-": {api.ESub, 6},
		"<<": {api.EShl, 5}, ">>": {api.EShr, 5},
		"<": {api.ELt, 4}, "<=": {api.ELe, 4}, ">": {api.EGt, 4}, ">=": {api.EGe, 4}, "==": {api.EEq, 4}, "!=": {api.ENe, 4},
		"&": {api.EAnd, 3},
		"^": {api.EXor, 2},
		"|": {api.EOr, loosest},
	}
}

func (p *parser) expression() api.Expr {
	return p.operated(loosest)
}

// operated reads values with operators between them that bind so closely at least; equally close ones take in what stands left of them.
func (p *parser) operated(least int) api.Expr {
	left := p.one()
	for {
		op, is := p.operators[p.ahead().Text]
		if !is || op.binds < least {
			return left
		}
		at := p.take().At
		right := p.operated(op.binds + 1)
		left = api.Expr{Op: op.kind, At: at, Args: []api.Expr{left, right}}
	}
}

// one reads a value without operators of two, but those within it.
func (p *parser) one() api.Expr {
	first := p.ahead()
	switch first.Text {
	case "-":
		return p.operand(api.ENeg)
	case "~":
		return p.operand(api.ENot)
	case "!":
		return p.operand(api.EZero)
	case "w16":
		return p.converted(api.EW16)
	case "w32":
		return p.converted(api.EW32)
	case "(":
		return p.within("(", ")")
	}
	if first.Kind == api.TokNum {
		return api.Expr{Op: api.ENum, At: first.At, N: p.take().N}
	}
	return p.variableValue()
}

// operand reads an operator of one value, and what stands behind it.
func (p *parser) operand(kind int) api.Expr {
	e := api.Expr{Op: kind, At: p.ahead().At}
	p.deeper(p.ahead().Text, func() { e.Args = []api.Expr{p.one()} })
	return e
}

// converted reads a type's word, and what stands between parentheses behind it.
func (p *parser) converted(kind int) api.Expr {
	at := p.take().At
	return api.Expr{Op: kind, At: at, Args: []api.Expr{p.within("(", ")")}}
}

// within reads an expression between two marks, one deeper.
func (p *parser) within(begin, end string) (e api.Expr) {
	p.deeper(begin, func() { e = p.expression() })
	p.need(end)
	return e
}

// variableValue reads a name, an element, or a field.
func (p *parser) variableValue() api.Expr {
	name := p.name()
	e := api.Expr{Op: api.EName, At: name.At, Name: name.Text}
	switch p.ahead().Text {
	case "[":
		e.Op, e.Args = api.EElem, []api.Expr{p.within("[", "]")}
	case ".":
		p.take()
		e.Op, e.Field = api.EField, p.name().Text
	}
	return e
}
