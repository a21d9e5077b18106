package print

import "plover/api"

// unknown is the text of what is of another kind than those that there are.
const unknown = "?"

// lacking is the kind of an expression that is not there: none that there is.
const lacking = -1

// alone is how closely those expressions bind that are no operators of two values: closer than each of these.
const alone = 8

// operator is the mark of an operator, and how closely it binds.
type operator struct {
	mark  string
	binds int
}

// operators are the operators, by their kinds.
var operators = [...]operator{
	api.ENeg: {"-", alone}, api.ENot: {"~", alone}, api.EZero: {"!", alone},
	api.EMul: {"*", 7}, api.EDiv: {"/", 7}, api.ERem: {"%", 7},
	api.EAdd: {"+", 6}, api.ESub: {"-", 6},
	api.EShl: {"<<", 5}, api.EShr: {">>", 5},
	api.ELt: {"<", 4}, api.ELe: {"<=", 4}, api.EGt: {">", 4}, api.EGe: {">=", 4}, api.EEq: {"==", 4}, api.ENe: {"!=", 4},
	api.EAnd: {"&", 3},
	api.EXor: {"^", 2},
	api.EOr:  {"|", 1},
}

// registers are the words of the registers, by their numbers.
var registers = [...]string{
	api.GpioOut: "gpio.out", api.GpioIn: "gpio.in", api.GpioEdge: "gpio.edge",
	api.UartData: "uart.data", api.UartStat: "uart.stat", api.UartCtl: "uart.ctl",
	api.T0Count: "t0.count", api.T0Comp: "t0.comp", api.T0Ctl: "t0.ctl",
	api.T1Count: "t1.count", api.T1Comp: "t1.comp", api.T1Ctl: "t1.ctl",
	api.IrqMask: "irq.mask", api.IrqPend: "irq.pend", api.IrqClear: "irq.clear",
}

func isOfOne(kind int) bool {
	return kind == api.ENeg || kind == api.ENot || kind == api.EZero
}

func isOfTwo(kind int) bool {
	return kind >= api.EMul && kind <= api.EOr
}

// binds tells how closely an expression of that kind binds.
func binds(kind int) int {
	if isOfTwo(kind) {
		return operators[kind].binds
	}
	return alone
}

func registerText(number int) string {
	if number < 0 || number >= len(registers) {
		return unknown
	}
	return registers[number]
}

func typeText(number int) string {
	switch number {
	case api.W16:
		return "w16"
	case api.W32:
		return "w32"
	}
	return unknown
}
