package fold

import "plover/api"

// The maps of what operators do stand where they are asked, and are small: so to ask one takes no new memory, and the machine may ask at each instruction.

// ofOne answers what an operator of one value makes of a, of a type; false of others. Only what can make another type's number of one of its own is wrapped: what ENot makes needs no more bits than a has.
func ofOne(op, t int, a int32) (int32, bool) {
	do, is := map[int]func(t int, a int32) int32{
		api.ENeg:  func(t int, a int32) int32 { return Wrap(t, -int64(a)) },
		api.ENot:  func(_ int, a int32) int32 { return -a - 1 },
		api.EZero: func(_ int, a int32) int32 { return int32(truth(a == 0)) },
		api.EW16:  func(_ int, a int32) int32 { return Wrap(api.W16, int64(a)) },
	}[op]
	if !is {
		return 0, false
	}
	return do(t, a), true
}

// ofTwo answers what an operator of two values makes of a and b: no division by 0, and b of a shift is the count.
func ofTwo(op, t int, a, b int64) int32 {
	if isComparison(op) {
		return int32(truth(compared(op, a, b)))
	}
	if v, is := exact(op, a, b); is {
		return Wrap(t, v)
	}
	return int32(inBits(op, a, b))
}

// exact answers what those operators make, ahead of being wrapped, that can make more than a type has; false of others. 64 bits have room for it.
func exact(op int, a, b int64) (int64, bool) {
	do, is := map[int]func(a, b int64) int64{
		api.EMul: func(a, b int64) int64 { return a * b },
		api.EDiv: func(a, b int64) int64 { return a / b },
		api.EAdd: func(a, b int64) int64 { return a + b },
		api.ESub: func(a, b int64) int64 { return a - b },
		api.EShl: func(a, b int64) int64 { return a << b },
	}[op]
	if !is {
		return 0, false
	}
	return do(a, b), true
}

// inBits answers what those operators make that need no more bits than their values have, so that nothing is to be wrapped; 0 of others.
func inBits(op int, a, b int64) int64 {
	do, is := map[int]func(a, b int64) int64{
		api.ERem: func(a, b int64) int64 { return a % b },
		api.EShr: func(a, b int64) int64 { return a >> b },
		api.EAnd: func(a, b int64) int64 { return a & b },
		api.EXor: func(a, b int64) int64 { return a ^ b },
		api.EOr:  func(a, b int64) int64 { return a | b },
	}[op]
	if !is {
		return 0
	}
	return do(a, b)
}

// compared tells whether a comparison holds.
func compared(op int, a, b int64) bool {
	do, is := map[int]func(a, b int64) bool{
		api.ELt: func(a, b int64) bool { return a < b },
		api.ELe: func(a, b int64) bool { return a <= b },
		api.EGt: func(a, b int64) bool { return a > b },
		api.EGe: func(a, b int64) bool { return a >= b },
		api.EEq: func(a, b int64) bool { return a == b },
		api.ENe: func(a, b int64) bool { return a != b },
	}[op]
	return is && do(a, b)
}

func truth(is bool) int64 {
	if is {
		return 1
	}
	return 0
}

// lowestBits answers the bits of a number that tell by how much a value of a type is shifted.
func lowestBits(t int) int32 {
	if t == api.W16 {
		return 15
	}
	return 31
}

func isDivision(op int) bool {
	return op == api.EDiv || op == api.ERem
}

func isShift(op int) bool {
	return op == api.EShl || op == api.EShr
}

func isComparison(op int) bool {
	return op >= api.ELt && op <= api.ENe
}
