package bank_test

import (
	"math"
	"testing"

	"plover/api"
	"plover/bank"
	"plover/fifo"
	"plover/gpio"
	"plover/irq"
	"plover/timer"
	"plover/uart"
)

// This is the tests' own reckoning: a bank's devices one by one, by their own calls, with the numbers of the chapter written out; what is requested is a row of truths.

// shown answers what a register should show.
func shown(b bank.Bank, reg int) int32 {
	switch {
	case reg < 0 || reg > 14:
		return 0
	case reg <= 2:
		return gpio.Peek(b.Gpio, reg)
	case reg <= 5:
		return uart.Peek(b.Uart, reg)
	case reg <= 8:
		return timer.Peek(b.T[0], reg-6)
	case reg <= 11:
		return timer.Peek(b.T[1], reg-9)
	}
	return irq.Peek(b.Irq, reg)
}

// read answers the bank that should be there, once a register is read.
func read(b bank.Bank, reg int) bank.Bank {
	if reg == 3 || reg == 4 || reg == 5 {
		_, b.Uart = uart.Read(b.Uart, reg)
	}
	return b
}

// written answers the bank that should be there, once a register is written.
func written(b bank.Bank, reg int, v int32) bank.Bank {
	switch reg {
	case 0, 1, 2:
		b.Gpio = gpio.Write(b.Gpio, reg, v)
	case 3, 4, 5:
		b.Uart = uart.Write(b.Uart, reg, v)
	case 6, 7, 8:
		b.T[0] = timer.Write(b.T[0], reg-6, v)
	case 9, 10, 11:
		b.T[1] = timer.Write(b.T[1], reg-9, v)
	case 12, 13, 14:
		b.Irq = irq.Write(b.Irq, reg, v)
	}
	return b
}

// asking answers the bank that should be there, once those of the five vectors that ask are requested.
func asking(b bank.Bank, asks [5]bool) bank.Bank {
	sum := 0
	for vector, rest := 0, int(b.Irq.Pend); vector < 8; vector, rest = vector+1, rest/2 {
		if rest%2 == 1 || vector < 5 && asks[vector] {
			sum += []int{1, 2, 4, 8, 16, 32, 64, 128}[vector]
		}
	}
	b.Irq.Pend = uint8(sum)
	return b
}

// pinned answers the bank that should be there, once levels came to the pins.
func pinned(b bank.Bank, level uint8) bank.Bank {
	var asks [5]bool
	b.Gpio, asks[0] = gpio.Pins(b.Gpio, level)
	return asking(b, asks)
}

// arrived answers the bank that should be there, once a byte came.
func arrived(b bank.Bank, c uint8) bank.Bank {
	var asks [5]bool
	b.Uart, asks[1] = uart.Arrive(b.Uart, c)
	return asking(b, asks)
}

// orders are all orders in which a bank's devices may tick: 0 is the first timer, 1 the second one, 2 the uart.
func orders() [][3]int {
	return [][3]int{{0, 1, 2}, {0, 2, 1}, {1, 0, 2}, {1, 2, 0}, {2, 0, 1}, {2, 1, 0}}
}

// ticked answers the bank that should be there one tick later, and what it sends, if the timers and the uart tick in an order.
func ticked(b bank.Bank, order [3]int) (after bank.Bank, sent uint8, is bool) {
	for _, one := range order {
		var asks [5]bool
		switch one {
		case 0:
			b.T[0], asks[3] = timer.Tick(b.T[0])
		case 1:
			b.T[1], asks[4] = timer.Tick(b.T[1])
		default:
			b.Uart, sent, is, asks[2] = uart.Tick(b.Uart)
		}
		b = asking(b, asks)
	}
	return b, sent, is
}

// noRegisters are numbers that are none's: below 0, 15 and above, both ends, and such that become a register's where bits are lost, or by a division.
func noRegisters() []int {
	all := []int{math.MinInt, math.MinInt + 1, math.MinInt + 6, math.MinInt + 14, -1 << 40, -1 << 32, -1<<32 + 3, -1<<32 + 13, -1 << 31, -65536, -65530, -256, -253, -244, -128, 64, 67, 128, 255, 256, 259, 262, 270, 65536, 65545, 1<<31 - 1, 1 << 31, 1<<32 - 1, 1 << 32, 1<<32 + 3, 1<<32 + 14, 1 << 40, math.MaxInt - 14, math.MaxInt - 1, math.MaxInt}
	for n := 1; n <= 32; n++ {
		all = append(all, -n, 14+n)
	}
	return all
}

// someValues are numbers that are written: of a byte, below 0, of 256 and above, of 16 bits and above, both ends, and one bit of each kind.
func someValues() []int32 {
	all := []int32{math.MinInt32, math.MinInt32 + 1, math.MinInt32 + 255, -65537, -65536, -65535, -32769, -32768, -513, -257, -256, -255, -129, -128, -2, -1, 0, 1, 2, 3, 7, 85, 127, 128, 170, 254, 255, 256, 257, 261, 321, 511, 512, 32767, 32768, 65535, 65536, 65537, 65541, 131071, math.MaxInt32 - 255, math.MaxInt32 - 1, math.MaxInt32}
	for bit := range 31 {
		all = append(all, 1<<bit, 1<<bit+0x2a5)
	}
	return all
}

// queue answers a queue's value of a Len, with bytes at the first places, whether it is a queue or not.
func queue(n int, row ...uint8) fifo.Queue {
	q := fifo.Queue{Len: n}
	copy(q.Bytes[:], row)
	return q
}

// somePins are pins of which each field has bits of its own, and others.
func somePins() []gpio.Gpio {
	return []gpio.Gpio{{}, {Out: 255}, {In: 255}, {Edge: 255}, {Out: 255, In: 255, Edge: 255}, {Out: 1, In: 2, Edge: 4}, {Out: 0x0f, In: 0x33, Edge: 0x55}, {Out: 200, In: 100, Edge: 50}, {In: 127, Edge: 128}}
}

// someUarts are uarts with queues that are empty, full, and between, at each Count.
func someUarts() []uart.Uart {
	full, two := queue(8, 1, 2, 3, 4, 5, 6, 7, 8), queue(2, 70, 80)
	return []uart.Uart{
		{}, {Ctl: 1}, {Ctl: 2}, {Ctl: 3}, {Lost: true, Ctl: 255},
		{Rx: queue(1, 65), Ctl: 1}, {Rx: two, Lost: true}, {Rx: queue(7, 9, 8, 7, 6, 5, 4, 3), Ctl: 3}, {Rx: full, Ctl: 1}, {Rx: full, Lost: true, Ctl: 1},
		{Tx: queue(1, 66), Ctl: 2}, {Tx: queue(1, 66), Ctl: 2, Count: 3}, {Tx: queue(1, 66), Ctl: 1, Count: 3}, {Tx: queue(1), Ctl: 3, Count: 3}, {Tx: two, Ctl: 2, Count: 3},
		{Tx: two, Ctl: 3, Count: 1}, {Tx: full, Ctl: 254, Count: 2}, {Tx: full, Ctl: 2, Count: 3}, {Rx: full, Tx: full, Lost: true, Ctl: 3, Count: 3}, {Rx: two, Tx: queue(1, 200), Ctl: 3, Count: 3},
	}
}

// oddUarts are values that are no uarts, so no row of calls makes them: queues with bytes behind their Len, or Lens that none has, and Counts that may not be.
func oddUarts() []uart.Uart {
	return []uart.Uart{
		{Count: 1}, {Count: 3, Ctl: 2}, {Count: 255, Ctl: 3},
		{Tx: queue(1, 66), Ctl: 2, Count: 4}, {Tx: queue(1, 66), Ctl: 2, Count: 255}, {Tx: queue(1, 66, 67), Ctl: 2, Count: 3}, {Tx: queue(0, 66), Ctl: 2, Count: 3}, {Tx: queue(-1, 66), Ctl: 2, Count: 3},
		{Tx: queue(9, 1, 2, 3), Ctl: 2, Count: 3}, {Tx: queue(math.MaxInt), Ctl: 2, Count: 3}, {Tx: queue(math.MinInt, 5), Ctl: 3, Count: 200},
		{Rx: queue(0, 65), Ctl: 1}, {Rx: queue(1, 65, 66), Ctl: 1}, {Rx: queue(-5, 1, 2), Ctl: 3}, {Rx: queue(9, 1), Ctl: 1}, {Rx: queue(math.MaxInt, 4, 5), Lost: true}, {Rx: queue(math.MinInt, 7), Ctl: 1},
		{Rx: queue(3, 1, 2, 3, 4, 5), Tx: queue(2, 6, 7, 8), Ctl: 3, Count: 77}, {Rx: queue(1<<32+1, 3), Tx: queue(1<<32+1, 4), Ctl: 3, Count: 3},
	}
}

// someTimers are timers that stand, and that run, once and again, near the tick that asks and far from it, with Ctls of which more bits are set than count.
func someTimers() []timer.Timer {
	return []timer.Timer{
		{}, {Comp: 1}, {Comp: 1, Ctl: 1}, {Comp: 1, Ctl: 3}, {Comp: 1, Ctl: 2}, {Comp: 2, Ctl: 3}, {Count: 1, Comp: 2, Ctl: 1},
		{Count: 5, Comp: 3, Ctl: 3}, {Count: 65535, Ctl: 1}, {Count: 65535, Ctl: 3}, {Count: 65535, Ctl: 65535}, {Count: 65534, Comp: 65535, Ctl: 0xfffd}, {Count: 9, Comp: 9, Ctl: 3}, {Count: 999, Comp: 1000, Ctl: 0x5a5b}, {Count: 65535, Comp: 65535, Ctl: 65534},
	}
}

// someControllers are controllers with each of both fields empty, full, and between.
func someControllers() []irq.Irq {
	return []irq.Irq{{}, {Mask: 255}, {Pend: 255}, {Mask: 255, Pend: 255}, {Mask: 1, Pend: 2}, {Mask: 0x55, Pend: 0xaa}, {Mask: 0x1f, Pend: 0xe0}, {Pend: 31}, {Mask: 10, Pend: 1}, {Pend: 24}, {Pend: 0xf7}}
}

// someBanks are banks of all these, so put together that each uart comes with each timer as the first one, and as the second one, and all others come often.
func someBanks() []bank.Bank {
	pins, timers, controllers := somePins(), someTimers(), someControllers()
	var all []bank.Bank
	for i, u := range append(someUarts(), oddUarts()...) {
		for j, t := range timers {
			n := len(all)
			other := timers[(i*7+j*4+3)%len(timers)]
			all = append(all,
				bank.Bank{Gpio: pins[n%len(pins)], Uart: u, T: [2]timer.Timer{t, other}, Irq: controllers[n%len(controllers)]},
				bank.Bank{Gpio: pins[(n+i)%len(pins)], Uart: u, T: [2]timer.Timer{other, t}, Irq: controllers[(n+i*j)%len(controllers)]},
			)
		}
	}
	return all
}

// marked is a bank of which each register shows a number of its own.
func marked() bank.Bank {
	return bank.Bank{
		Gpio: gpio.Gpio{Out: 10, In: 11, Edge: 12},
		Uart: uart.Uart{Rx: queue(2, 13, 113), Lost: true, Ctl: 15},
		T:    [2]timer.Timer{{Count: 1600, Comp: 1700, Ctl: 1800}, {Count: 19000, Comp: 20000, Ctl: 65535}},
		Irq:  irq.Irq{Mask: 22, Pend: 23},
	}
}

// dice makes numbers that look like chance, and are the same each time.
type dice uint64

// below answers a number from 0 on, below n.
func (d *dice) below(n int) int {
	*d = *d*6364136223846793005 + 1442695040888963407
	return int(uint64(*d) >> 33 % uint64(n))
}

// value answers any number that is written: mostly a small one, so that timers come to it, and queues are asked about.
func (d *dice) value() int32 {
	if d.below(3) == 0 {
		return int32(uint32(d.below(1<<31))<<1 + uint32(d.below(2)))
	}
	return int32(d.below(8)) + int32(d.below(3)-1)<<(8*(1+d.below(3)))
}

// timer answers any timer, which mostly runs, and mostly asks soon.
func (d *dice) timer() timer.Timer {
	t := timer.Timer{Count: uint16(d.below(65536)), Comp: uint16(d.below(6)), Ctl: uint16(d.below(65536))}
	if d.below(4) > 0 {
		t.Count = t.Comp - 1 - uint16(d.below(4))
	}
	if d.below(4) > 0 {
		t.Ctl |= 1
	}
	return t
}

// queue answers any queue's value, whether it is a queue or not.
func (d *dice) queue() fifo.Queue {
	q := fifo.Queue{Len: d.below(11) - 1}
	for i := range q.Bytes {
		if d.below(8) == 0 || i < q.Len {
			q.Bytes[i] = uint8(d.below(256))
		}
	}
	return q
}

// bank answers any bank, whether a row of calls makes it or not.
func (d *dice) bank() bank.Bank {
	return bank.Bank{
		Gpio: gpio.Gpio{Out: uint8(d.below(256)), In: uint8(d.below(256)), Edge: uint8(d.below(256))},
		Uart: uart.Uart{Rx: d.queue(), Tx: d.queue(), Lost: d.below(2) == 0, Ctl: uint8(d.below(256)), Count: uint8(d.below(5))},
		T:    [2]timer.Timer{d.timer(), d.timer()},
		Irq:  irq.Irq{Mask: uint8(d.below(256)), Pend: uint8(d.below(256) & d.below(256))},
	}
}

func wantPeek(t *testing.T, b bank.Bank, reg int, want int32) {
	t.Helper()
	if got := bank.Peek(b, reg); got != want {
		t.Errorf("Peek(%v, %d): %d, want %d", b, reg, got, want)
	}
}

func wantRead(t *testing.T, b bank.Bank, reg int, want int32, wantAfter bank.Bank) {
	t.Helper()
	if got, after := bank.Read(b, reg); got != want || after != wantAfter {
		t.Errorf("Read(%v, %d): %d, %v, want %d, %v", b, reg, got, after, want, wantAfter)
	}
}

func wantWrite(t *testing.T, b bank.Bank, reg int, v int32, want bank.Bank) {
	t.Helper()
	if got := bank.Write(b, reg, v); got != want {
		t.Errorf("Write(%v, %d, %d): %v, want %v", b, reg, v, got, want)
	}
}

func wantAll(t *testing.T, b bank.Bank, want [15]int32) {
	t.Helper()
	var got [api.LastReg + 1]int32 = bank.All(b)
	if got != want {
		t.Errorf("All(%v): %v, want %v", b, got, want)
	}
}

func wantPins(t *testing.T, b bank.Bank, level uint8, want bank.Bank) {
	t.Helper()
	if got := bank.Pins(b, level); got != want {
		t.Errorf("Pins(%v, %d): %v, want %v", b, level, got, want)
	}
}

func wantArrive(t *testing.T, b bank.Bank, c uint8, want bank.Bank) {
	t.Helper()
	if got := bank.Arrive(b, c); got != want {
		t.Errorf("Arrive(%v, %d): %v, want %v", b, c, got, want)
	}
}

func wantTick(t *testing.T, b, want bank.Bank, wantSent uint8, wantIs bool) {
	t.Helper()
	if got, sent, is := bank.Tick(b); got != want || sent != wantSent || is != wantIs {
		t.Errorf("Tick(%v): %v, %d, %v, want %v, %d, %v", b, got, sent, is, want, wantSent, wantIs)
	}
}

// wantReadReckoned holds Peek and Read against the reckoning.
func wantReadReckoned(t *testing.T, b bank.Bank, reg int) {
	t.Helper()
	wantPeek(t, b, reg, shown(b, reg))
	wantRead(t, b, reg, shown(b, reg), read(b, reg))
}

// wantTickReckoned holds Tick against the reckoning.
func wantTickReckoned(t *testing.T, b bank.Bank) {
	t.Helper()
	after, sent, is := ticked(b, [3]int{0, 1, 2})
	wantTick(t, b, after, sent, is)
}

// pend answers the vectors that are requested, as IrqPend shows them.
func pend(b bank.Bank) int32 {
	return bank.Peek(b, api.IrqPend)
}
