package parse

import "plover/api"

// registers are the words of the registers, by their numbers.
var registers = [...]string{
	api.GpioOut: "gpio.out", api.GpioIn: "gpio.in", api.GpioEdge: "gpio.edge",
	api.UartData: "uart.data", api.UartStat: "uart.stat", api.UartCtl: "uart.ctl",
	api.T0Count: "t0.count", api.T0Comp: "t0.comp", api.T0Ctl: "t0.ctl",
	api.T1Count: "t1.count", api.T1Comp: "t1.comp", api.T1Ctl: "t1.ctl",
	api.IrqMask: "irq.mask", api.IrqPend: "irq.pend", api.IrqClear: "irq.clear",
}

// isName tells whether a token is a name that is no word.
func isName(token api.Token) bool {
	return token.Kind == api.TokName && !isWord(token.Text) && !isDevice(token.Text)
}

// isWord tells whether that is a word of the language.
func isWord(text string) bool {
	switch text {
	case "struct", "var", "fn", "on", "priority", "w16", "w32", "in", "out",
		"if", "else", "while", "critical", "sleep", "halt", "return":
		return true
	}
	return false
}

// isDevice tells whether that is a device's word.
func isDevice(text string) bool {
	switch text {
	case "gpio", "uart", "t0", "t1", "irq":
		return true
	}
	return false
}

// typeOf answers the type that a word means, if it means one.
func typeOf(text string) int {
	switch text {
	case "w16":
		return api.W16
	case "w32":
		return api.W32
	}
	return api.NoType
}
