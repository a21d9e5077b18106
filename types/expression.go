package types

import "plover/api"

// most16 is the greatest number that may stand where a w16 is asked for.
const most16 = 1<<16 - 1

// ofEither answers an expression checked, which may be of either type; or gives up.
func ofEither(e api.Expr) api.Expr {
	return taking(byItself(e), api.W32)
}

// ofType answers an expression checked, which must be of that type; or gives up.
func ofType(e api.Expr, typ int) api.Expr {
	e = taking(byItself(e), typ)
	if e.Type != typ {
		panic(fault(api.ErrType, e.At))
	}
	return e
}

// byItself answers an expression with the types that it, and all in it, have by themselves.
func byItself(e api.Expr) api.Expr {
	e.Args = each(e.Args, byItself)
	e.Type = ownType(e)
	return e
}

// ownType answers the type that an expression has by itself, if it has one; its operands have theirs.
func ownType(e api.Expr) int {
	switch {
	case e.Op == api.ELocal, e.Op == api.EWord, e.Op == api.ECell:
		return e.Type
	case e.Op == api.EZero, e.Op == api.EW16, isComparison(e.Op):
		return api.W16
	case e.Op == api.EW32:
		return api.W32
	case isShift(e.Op):
		return firstType(e.Args[:min(1, len(e.Args))])
	}
	return firstType(e.Args)
}

// firstType answers the type of the first of these that has one.
func firstType(all []api.Expr) int {
	for _, e := range all {
		if e.Type != api.NoType {
			return e.Type
		}
	}
	return api.NoType
}

// taking answers an expression whose types by themselves are known, in which all else has the type that it is asked for; or gives up.
func taking(e api.Expr, asked int) api.Expr {
	if e.Type == api.NoType {
		e.Type = asked
	}
	inner := askedOfOperands(e)
	e.Args = each(e.Args, func(operand api.Expr) api.Expr { return taking(operand, inner) })
	if needsOneType(e.Op) && len(e.Args) > 1 && e.Args[0].Type != e.Args[1].Type {
		panic(fault(api.ErrType, e.At))
	}
	if e.Op == api.ENum {
		e.N = valueOf(e)
	}
	return e
}

// askedOfOperands answers the type that an expression's operands are asked for; these have the types yet that they have by themselves.
func askedOfOperands(e api.Expr) int {
	switch {
	case isComparison(e.Op):
		if typ := firstType(e.Args); typ != api.NoType {
			return typ
		}
	case e.Op == api.ENeg, e.Op == api.ENot, isOfTwo(e.Op):
		return e.Type
	}
	return api.W32
}

// valueOf answers the value that a number has in its type, or gives up.
func valueOf(e api.Expr) int64 {
	if e.Type == api.W16 {
		if e.N > most16 {
			panic(fault(api.ErrNumber, e.At))
		}
		return signed(e.N, 16)
	}
	return signed(e.N, 32)
}

// signed answers what a number of so many bits is, if its highest bit is a sign.
func signed(n int64, bits int) int64 {
	if n >= 1<<(bits-1) {
		return n - 1<<bits
	}
	return n
}

func isOfTwo(op int) bool {
	return op >= api.EMul && op <= api.EOr
}

func isShift(op int) bool {
	return op == api.EShl || op == api.EShr
}

func isComparison(op int) bool {
	return op >= api.ELt && op <= api.ENe
}

// needsOneType tells whether an operator's two values must be of one type.
func needsOneType(op int) bool {
	return isOfTwo(op) && !isShift(op)
}
