package print

import "plover/api"

// byKind tells by a statement's kind what writes it.
func (w *printer) byKind() map[int]func(api.Stmt) {
	return map[int]func(api.Stmt){
		api.SVar:    w.variable,
		api.SSet:    w.set,
		api.SCell:   w.setCell,
		api.SField:  w.setField,
		api.SCall:   w.call,
		api.SIn:     w.input,
		api.SOut:    w.output,
		api.SIf:     w.choice,
		api.SWhile:  w.loop,
		api.SCrit:   w.section,
		api.SSleep:  w.sleep,
		api.SHalt:   w.halt,
		api.SReturn: w.giveBack,
	}
}

func (w *printer) statement(s api.Stmt) {
	write, is := w.statements[s.Op]
	if !is {
		w.line(unknown, ";")
		return
	}
	write(s)
}

// value answers the text of a statement's expression of that number.
func value(s api.Stmt, n int) string {
	return Expr(nth(s.E, n))
}

func (w *printer) variable(s api.Stmt) {
	w.line("var ", s.Name, ": ", typeText(s.Type), " = ", value(s, 0), ";")
}

func (w *printer) set(s api.Stmt) {
	w.line(s.Name, " = ", value(s, 0), ";")
}

func (w *printer) setCell(s api.Stmt) {
	w.line(s.Name, "[", value(s, 0), "] = ", value(s, 1), ";")
}

func (w *printer) setField(s api.Stmt) {
	w.line(s.Name, ".", s.Field, " = ", value(s, 0), ";")
}

func (w *printer) call(s api.Stmt) {
	target := ""
	if s.Name != "" {
		target = s.Name + " = "
	}
	w.line(target, s.Func, "(", row(s.E, Expr), ");")
}

func (w *printer) input(s api.Stmt) {
	w.line("in ", s.Name, " = ", registerText(s.Reg), ";")
}

func (w *printer) output(s api.Stmt) {
	w.line("out ", registerText(s.Reg), " = ", value(s, 0), ";")
}

func (w *printer) choice(s api.Stmt) {
	w.line("if (", value(s, 0), ") {")
	w.block(s.Body)
	if len(s.Else) > 0 {
		w.line("} else {")
		w.block(s.Else)
	}
	w.line("}")
}

func (w *printer) loop(s api.Stmt) {
	w.line("while (", value(s, 0), ") {")
	w.block(s.Body)
	w.line("}")
}

func (w *printer) section(s api.Stmt) {
	w.line("critical {")
	w.block(s.Body)
	w.line("}")
}

func (w *printer) sleep(api.Stmt) {
	w.line("sleep;")
}

func (w *printer) halt(api.Stmt) {
	w.line("halt;")
}

func (w *printer) giveBack(s api.Stmt) {
	if len(s.E) == 0 {
		w.line("return;")
		return
	}
	w.line("return ", value(s, 0), ";")
}
