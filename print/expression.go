package print

import (
	"strconv"
	"strings"

	"plover/api"
)

// Expr answers the text of an expression.
func Expr(e api.Expr) string {
	w := &writer{}
	w.expression(e)
	return w.text.String()
}

// writer writes expressions into one text: each of its bytes is written once, however deep it stands.
type writer struct {
	text strings.Builder
}

func (w *writer) write(parts ...string) {
	for _, part := range parts {
		w.text.WriteString(part)
	}
}

func (w *writer) expression(e api.Expr) {
	switch e.Op {
	case api.ENum:
		w.write(strconv.FormatInt(e.N, 10))
	case api.EName:
		w.write(e.Name)
	case api.EElem:
		w.within(e.Name+"[", e, "]")
	case api.EField:
		w.write(e.Name, ".", e.Field)
	case api.EW16:
		w.within(typeText(api.W16)+"(", e, ")")
	case api.EW32:
		w.within(typeText(api.W32)+"(", e, ")")
	case api.EParen:
		w.within("(", e, ")")
	default:
		w.operated(e)
	}
}

// within writes an expression's only operand between two marks.
func (w *writer) within(begin string, e api.Expr, end string) {
	w.write(begin)
	w.expression(nth(e.Args, 0))
	w.write(end)
}

// operated writes an operator with its operands.
func (w *writer) operated(e api.Expr) {
	// operand writes the operand of that number: between parentheses, if it does not bind so closely at least.
	operand := func(n, least int) {
		inner := nth(e.Args, n)
		if binds(inner.Op) >= least {
			w.expression(inner)
			return
		}
		w.write("(")
		w.expression(inner)
		w.write(")")
	}
	switch {
	case isOfOne(e.Op):
		w.write(operators[e.Op].mark)
		operand(0, alone)
	case isOfTwo(e.Op):
		operand(0, binds(e.Op))
		w.write(" ", operators[e.Op].mark, " ")
		operand(1, binds(e.Op)+1)
	default:
		w.write(unknown)
	}
}

// nth answers the expression of that number in a row, or one of no kind, where it is lacking.
func nth(row []api.Expr, n int) api.Expr {
	if n < len(row) {
		return row[n]
	}
	return api.Expr{Op: lacking}
}
