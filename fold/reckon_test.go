package fold_test

import (
	"math/big"

	"plover/api"
)

// bits tells how many bits a type's numbers have.
func bits(typ int) uint {
	if typ == api.W16 {
		return 16
	}
	return 32
}

// power tells 2 to the n.
func power(n uint) *big.Int {
	return new(big.Int).Lsh(big.NewInt(1), n)
}

// wrapped tells that number of a type which is so many times 2^16, 2^32 away.
func wrapped(typ int, v *big.Int) int32 {
	all := power(bits(typ))
	rest := new(big.Int).Mod(v, all)
	if rest.Cmp(power(bits(typ)-1)) >= 0 {
		rest.Sub(rest, all)
	}
	return int32(rest.Int64())
}

func reckonedWrap(typ int, v int64) int32 {
	return wrapped(typ, big.NewInt(v))
}

func reckonedUn(op, typ int, a int32) int32 {
	v := big.NewInt(int64(a))
	switch op {
	case api.ENeg:
		return wrapped(typ, new(big.Int).Neg(v))
	case api.ENot:
		return int32(new(big.Int).Sub(new(big.Int).Neg(v), big.NewInt(1)).Int64())
	case api.EZero:
		if a == 0 {
			return 1
		}
		return 0
	case api.EW16:
		return wrapped(api.W16, v)
	}
	return a
}

// reckonedBin tells what the chapter says of an operator of two, in numbers that have no end.
func reckonedBin(op, typ int, a, b int32) (int32, bool) {
	x, y, made := big.NewInt(int64(a)), big.NewInt(int64(b)), new(big.Int)
	count := uint(new(big.Int).Mod(y, big.NewInt(int64(bits(typ)))).Int64())
	switch op {
	case api.EMul:
		return wrapped(typ, made.Mul(x, y)), true
	case api.EAdd:
		return wrapped(typ, made.Add(x, y)), true
	case api.ESub:
		return wrapped(typ, made.Sub(x, y)), true
	case api.EDiv, api.ERem:
		if b == 0 {
			return 0, false
		}
		made.Quo(x, y)
		if op == api.EDiv {
			return wrapped(typ, made), true
		}
		return int32(new(big.Int).Sub(x, made.Mul(made, y)).Int64()), true
	case api.EShl:
		return wrapped(typ, made.Mul(x, power(count))), true
	case api.EShr:
		return int32(made.Sub(x, new(big.Int).Mod(x, power(count))).Quo(made, power(count)).Int64()), true
	case api.EAnd, api.EXor, api.EOr:
		return bitByBit(op, a, b), true
	}
	if reckonedTruth(op, x.Cmp(y)) {
		return 1, true
	}
	return 0, true
}

// reckonedTruth tells whether a comparison holds of what is less (-1), equal (0), greater (1).
func reckonedTruth(op, order int) bool {
	switch op {
	case api.ELt:
		return order == -1
	case api.ELe:
		return order != 1
	case api.EGt:
		return order == 1
	case api.EGe:
		return order != -1
	case api.EEq:
		return order == 0
	case api.ENe:
		return order != 0
	}
	return false
}

// bitByBit goes through the bits of the two's complement; the highest one is worth -2^31.
func bitByBit(op int, a, b int32) int32 {
	sum := int64(0)
	for bit := range 32 {
		both := int(a>>bit&1) + int(b>>bit&1)
		is := both == 2 && op == api.EAnd || both == 1 && op == api.EXor || both > 0 && op == api.EOr
		worth := int64(1) << bit
		if bit == 31 {
			worth = -worth
		}
		if is {
			sum += worth
		}
	}
	return int32(sum)
}

// reckonedFold tells an expression folded, as the chapter says it.
func reckonedFold(e api.Expr) api.Expr {
	var args []api.Expr
	numbers := 0
	for _, arg := range e.Args {
		arg = reckonedFold(arg)
		if arg.Op == api.ENum {
			numbers++
		}
		args = append(args, arg)
	}
	e.Args = args
	ofOne, ofTwo := e.Op >= api.ENeg && e.Op <= api.EW32, e.Op >= api.EMul && e.Op <= api.EOr
	switch {
	case e.Op == api.ENum:
		e.N = int64(reckonedWrap(e.Type, e.N))
	case ofOne && len(args) == 1 && numbers == 1:
		return made(e, reckonedUn(e.Op, e.Type, int32(args[0].N)))
	case ofTwo && len(args) == 2 && numbers == 2:
		if v, is := reckonedBin(e.Op, args[0].Type, int32(args[0].N), int32(args[1].N)); is {
			return made(e, v)
		}
	}
	return e
}

// made tells the number that stands where an operator stood.
func made(e api.Expr, v int32) api.Expr {
	return api.Expr{Op: api.ENum, At: e.At, Type: e.Type, N: int64(reckonedWrap(e.Type, int64(v)))}
}

// outcome is an expression's value, or the trap.
type outcome struct {
	value int32
	trap  int
}

// variables are what an expression hangs on: locals by their numbers, words by their addresses.
type variables struct {
	locals, words []int32
}

// value tells an expression's value as the source's machine finds it: from left to right, up to the first trap.
func (v variables) value(e api.Expr) outcome {
	var values []int32
	for _, arg := range e.Args {
		o := v.value(arg)
		if o.trap != api.Running {
			return o
		}
		values = append(values, o.value)
	}
	switch {
	case e.Op == api.ENum:
		return outcome{value: int32(e.N)}
	case e.Op == api.ELocal:
		return outcome{value: v.locals[e.Ref]}
	case e.Op == api.EWord:
		return outcome{value: v.words[e.Ref]}
	case e.Op == api.ECell:
		if values[0] < 0 || int64(values[0]) >= e.N {
			return outcome{trap: api.TrapIndex}
		}
		return outcome{value: v.words[e.Ref+int(values[0])]}
	case len(values) == 1:
		return outcome{value: reckonedUn(e.Op, e.Type, values[0])}
	}
	made, is := reckonedBin(e.Op, e.Args[0].Type, values[0], values[1])
	if !is {
		return outcome{trap: api.TrapDiv}
	}
	return outcome{value: made}
}
