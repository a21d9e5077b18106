package bank

import (
	"plover/api"
	"plover/gpio"
	"plover/irq"
	"plover/timer"
	"plover/uart"
)

// device is a device of a bank, reached by its registers, which are numbered as the bank numbers them; what is read, or written, changes it where it stands.
type device interface {
	peek(reg int) int32
	read(reg int) int32
	write(reg int, v int32)
}

// shown is what devices have in common: registers that can be looked at, of which nothing is taken when they are read.
type shown struct {
	look func(reg int) int32
}

func (s shown) peek(reg int) int32 { return s.look(reg) }

func (s shown) read(reg int) int32 { return s.look(reg) }

// pins are a bank's pins as a device.
type pins struct {
	shown
	at *gpio.Gpio
}

func (p pins) write(reg int, v int32) { *p.at = gpio.Write(*p.at, reg, v) }

// serial is a bank's uart as a device.
type serial struct {
	shown
	at *uart.Uart
}

// read takes what is read: of all devices the uart alone is another one then.
func (s serial) read(reg int) int32 {
	v, after := uart.Read(*s.at, reg)
	*s.at = after
	return v
}

func (s serial) write(reg int, v int32) { *s.at = uart.Write(*s.at, reg, v) }

// counter is one of a bank's timers as a device; first is the bank's number of what the timer numbers 0.
type counter struct {
	shown
	at    *timer.Timer
	first int
}

func (c counter) write(reg int, v int32) { *c.at = timer.Write(*c.at, reg-c.first, v) }

// controller is a bank's interrupt controller as a device.
type controller struct {
	shown
	at *irq.Irq
}

func (c controller) write(reg int, v int32) { *c.at = irq.Write(*c.at, reg, v) }

// owner answers the device of a bank whose a register is; nil, if it is none's.
func owner(b *Bank, reg int) device {
	made, is := owners()[reg]
	if !is {
		return nil
	}
	return made(b)
}

// owners tells of each register how the device is made whose it is: just the one that is asked for is. A number that is none's is not among them.
func owners() map[int]func(*Bank) device {
	return map[int]func(*Bank) device{
		api.GpioOut:  pinsOf,
		api.GpioIn:   pinsOf,
		api.GpioEdge: pinsOf,
		api.UartData: serialOf,
		api.UartStat: serialOf,
		api.UartCtl:  serialOf,
		api.T0Count:  firstOf,
		api.T0Comp:   firstOf,
		api.T0Ctl:    firstOf,
		api.T1Count:  secondOf,
		api.T1Comp:   secondOf,
		api.T1Ctl:    secondOf,
		api.IrqMask:  controllerOf,
		api.IrqPend:  controllerOf,
		api.IrqClear: controllerOf,
	}
}

// pinsOf answers a bank's pins.
func pinsOf(b *Bank) device {
	at := &b.Gpio
	return pins{shown{func(reg int) int32 { return gpio.Peek(*at, reg) }}, at}
}

// serialOf answers a bank's uart.
func serialOf(b *Bank) device {
	at := &b.Uart
	return serial{shown{func(reg int) int32 { return uart.Peek(*at, reg) }}, at}
}

// firstOf answers a bank's first timer.
func firstOf(b *Bank) device { return counterOf(&b.T[0], api.T0Count) }

// secondOf answers a bank's second timer.
func secondOf(b *Bank) device { return counterOf(&b.T[1], api.T1Count) }

// counterOf answers the timer whose registers begin at first.
func counterOf(at *timer.Timer, first int) device {
	return counter{shown{func(reg int) int32 { return timer.Peek(*at, reg-first) }}, at, first}
}

// controllerOf answers a bank's interrupt controller.
func controllerOf(b *Bank) device {
	at := &b.Irq
	return controller{shown{func(reg int) int32 { return irq.Peek(*at, reg) }}, at}
}
