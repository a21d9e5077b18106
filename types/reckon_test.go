package types_test

import (
	"strings"

	"plover/api"
	"plover/scope"
)

// reckoning goes through a program as the chapter does, and goes on behind faults: it has all of them, in the chapter's order.
type reckoning struct {
	p      api.Prog
	result int // of the function that is gone through
	faults []api.Fault
}

// rule is what the chapter says of a kind of expression: of which operands it has its type, and what these are asked for.
type rule struct {
	own   string // w16, w32; left, either: that of operands; declared; none
	asked string // type: the operator's; compared: that of one of both; w32
	same  bool   // whether both operands must have one type
}

func ruleOf(op int) rule {
	switch op {
	case api.ENum:
		return rule{own: "none", asked: "w32"}
	case api.ENeg, api.ENot:
		return rule{own: "left", asked: "type"}
	case api.EZero, api.EW16:
		return rule{own: "w16", asked: "w32"}
	case api.EW32:
		return rule{own: "w32", asked: "w32"}
	case api.EMul, api.EDiv, api.ERem, api.EAdd, api.ESub, api.EAnd, api.EXor, api.EOr:
		return rule{own: "either", asked: "type", same: true}
	case api.EShl, api.EShr:
		return rule{own: "left", asked: "type"}
	case api.ELt, api.ELe, api.EGt, api.EGe, api.EEq, api.ENe:
		return rule{own: "w16", asked: "compared", same: true}
	}
	return rule{own: "declared", asked: "w32"}
}

func (r *reckoning) fault(code api.Errno, at int) {
	r.faults = append(r.faults, api.Fault{Code: code, At: at})
}

// own tells the type that an expression has by itself, or 0.
func own(e api.Expr) int {
	switch ruleOf(e.Op).own {
	case "w16":
		return api.W16
	case "w32":
		return api.W32
	case "left":
		return own(e.Args[0])
	case "either":
		return ownOfOne(e.Args)
	case "declared":
		return e.Type
	}
	return 0
}

// ownOfOne tells the type that one of two has by itself, the left one's first, or 0.
func ownOfOne(both []api.Expr) int {
	if typ := own(both[0]); typ != 0 {
		return typ
	}
	return own(both[1])
}

// expression tells what an expression is checked, asked for that type.
func (r *reckoning) expression(e api.Expr, asked int) api.Expr {
	rule := ruleOf(e.Op)
	typ := own(e)
	if typ == 0 {
		typ = asked
	}
	of := api.W32
	if rule.asked == "type" {
		of = typ
	} else if rule.asked == "compared" && ownOfOne(e.Args) != 0 {
		of = ownOfOne(e.Args)
	}
	var operands []api.Expr
	for _, operand := range e.Args {
		operands = append(operands, r.expression(operand, of))
	}
	if rule.same && operands[0].Type != operands[1].Type {
		r.fault(api.ErrType, e.At)
	}
	if e.Op == api.ENum {
		e.N = r.number(e, typ)
	}
	e.Type, e.Args = typ, operands
	return e
}

// number tells what a number is in a type.
func (r *reckoning) number(e api.Expr, typ int) int64 {
	switch {
	case typ == api.W16 && e.N > 65535:
		r.fault(api.ErrNumber, e.At)
	case typ == api.W16 && e.N > 32767:
		return e.N - 65536
	case typ == api.W32 && e.N > 2147483647:
		return e.N - 4294967296
	}
	return e.N
}

// value tells what an expression is checked that must be of a type.
func (r *reckoning) value(e api.Expr, typ int) api.Expr {
	e = r.expression(e, typ)
	if e.Type != typ {
		r.fault(api.ErrType, e.At)
	}
	return e
}

// names tells what names are checked, if there is no fault.
func (r *reckoning) names(n scope.Names) scope.Names {
	r.p = n.Prog
	var funcs []api.Func
	for _, f := range n.Prog.Funcs {
		r.result = f.Result
		f.Body = r.statements(f.Body)
		funcs = append(funcs, f)
	}
	n.Prog.Funcs = funcs
	return n
}

func (r *reckoning) statements(body []api.Stmt) []api.Stmt {
	var all []api.Stmt
	for _, s := range body {
		switch s.Op {
		case api.SCall:
			s.E = r.call(s)
		case api.SReturn:
			s.E = r.returned(s)
		default:
			s.E = r.expressions(s)
		}
		s.Body = r.statements(s.Body)
		s.Else = r.statements(s.Else)
		all = append(all, s)
	}
	return all
}

// expressions tells the expressions of a statement that is no call, and no return: a target stands ahead of a value.
func (r *reckoning) expressions(s api.Stmt) []api.Expr {
	var all []api.Expr
	for i, e := range s.E {
		if i == 0 {
			all = append(all, r.expression(e, api.W32))
		} else {
			all = append(all, r.value(e, s.E[0].Type))
		}
	}
	return all
}

func (r *reckoning) call(s api.Stmt) []api.Expr {
	var f api.Func
	for _, other := range r.p.Funcs {
		if other.Vector < 0 && other.Name == s.Func {
			f = other
		}
	}
	var all []api.Expr
	arguments := s.E
	if s.Name != "" {
		all = append(all, r.expression(s.E[0], api.W32))
		arguments = s.E[1:]
	}
	if len(arguments) != len(f.Params) {
		r.fault(api.ErrCount, s.At)
		return all
	}
	for i, e := range arguments {
		all = append(all, r.value(e, f.Params[i].Type))
	}
	if s.Name != "" && f.Result == api.NoType {
		r.fault(api.ErrValue, s.At)
	} else if s.Name != "" && f.Result != s.E[0].Type {
		r.fault(api.ErrType, s.At)
	}
	return all
}

func (r *reckoning) returned(s api.Stmt) []api.Expr {
	if len(s.E) == 1 != (r.result != api.NoType) {
		r.fault(api.ErrValue, s.At)
		return nil
	}
	if len(s.E) == 0 {
		return nil
	}
	return []api.Expr{r.value(s.E[0], r.result)}
}

// wrongOf tells what is wrong in P6.2's words of statements that were checked; nothing, if all is right.
func wrongOf(body []api.Stmt) string {
	var wrong []string
	for _, s := range body {
		for _, e := range everyExpression(s.E) {
			if e.Type != api.W16 && e.Type != api.W32 {
				wrong = append(wrong, "neither: "+typed(e))
			}
			if ruleOf(e.Op).same && e.Args[0].Type != e.Args[1].Type {
				wrong = append(wrong, "two types: "+typed(e))
			}
			least, most := int64(-32768), int64(32767)
			if e.Type == api.W32 {
				least, most = -2147483648, 2147483647
			}
			if e.Op == api.ENum && (e.N < least || e.N > most) {
				wrong = append(wrong, "no number of its type: "+typed(e))
			}
		}
		switch s.Op {
		case api.SVar, api.SSet, api.SCell, api.SField:
			if len(s.E) != 2 || s.E[0].Type != s.E[1].Type {
				wrong = append(wrong, "set: "+told(s.E))
			}
		}
		wrong = append(wrong, wrongOf(s.Body), wrongOf(s.Else))
	}
	return strings.Join(wrong, "")
}
