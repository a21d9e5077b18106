package bank_test

import (
	"testing"

	"plover/api"
	"plover/bank"
	"plover/irq"
	"plover/timer"
	"plover/uart"
)

// P15.3: what was requested stays so, of each set of vectors, by any one thing that comes, ticks, is read, or is written but to IrqClear.
func TestP153Stays(t *testing.T) {
	values := someValues()
	for i, b := range someBanks() {
		for set := i % 5; set < 256; set += 5 {
			b.Irq.Pend = uint8(set)
			ticked, _, _ := bank.Tick(b)
			all := []bank.Bank{ticked, bank.Pins(b, uint8(set*7)), bank.Arrive(b, uint8(set))}
			for reg := -1; reg <= 15; reg++ {
				_, after := bank.Read(b, reg)
				all = append(all, after)
				if reg != api.IrqClear {
					all = append(all, bank.Write(b, reg, values[(i+set+reg+1)%len(values)]))
				}
			}
			for n, after := range all {
				if pend(after)&int32(set) != int32(set) {
					t.Fatalf("%v became %v, by the %d. of all ways", b, after, n)
				}
			}
		}
	}
}

// book is a bank, and which vectors were asked for and not cleared since, told by what is due: pins that rise, bytes for which there is room, the last byte that is sent, timers' ticks that ask.
type book struct {
	b    bank.Bank
	wait map[int]int
}

// due puts down a vector, if it is asked for.
func (k *book) due(vector int, asks bool) {
	if asks {
		k.wait[vector] = 1
	}
}

// pins lets levels come.
func (k *book) pins(level uint8) {
	rise := false
	for pin := range 8 {
		bit := int32(1) << pin
		was, looked := bank.Peek(k.b, api.GpioIn)&bit, bank.Peek(k.b, api.GpioEdge)&bit
		rise = rise || was == 0 && looked != 0 && int32(level)&bit != 0
	}
	k.due(0, rise)
	k.b = bank.Pins(k.b, level)
}

// arrive lets a byte come.
func (k *book) arrive(c uint8) {
	k.due(1, k.b.Uart.Rx.Len < 8 && bank.Peek(k.b, api.UartCtl)%2 == 1)
	k.b = bank.Arrive(k.b, c)
}

// tick ticks once.
func (k *book) tick() {
	k.due(2, k.b.Uart.Tx.Len == 1 && k.b.Uart.Count == 3 && bank.Peek(k.b, api.UartCtl)/2%2 == 1)
	for i, count := range []int{api.T0Count, api.T1Count} {
		next := (bank.Peek(k.b, count) + 1) % 65536
		k.due(3+i, bank.Peek(k.b, count+2)%2 == 1 && next == bank.Peek(k.b, count+1))
	}
	k.b, _, _ = bank.Tick(k.b)
}

// write writes to any register.
func (k *book) write(reg int, v int32) {
	for vector := range 8 {
		if v>>vector&1 == 1 && reg == api.IrqPend {
			k.wait[vector] = 1
		}
		if v>>vector&1 == 1 && reg == api.IrqClear {
			delete(k.wait, vector)
		}
	}
	k.b = bank.Write(k.b, reg, v)
}

// want holds what is requested against what waits.
func (k *book) want(t *testing.T) {
	t.Helper()
	var waits int32
	for vector := range k.wait {
		waits += 1 << vector
	}
	wantPeek(t, k.b, api.IrqPend, waits)
}

// P15.3: of long rows of all that can be done to a bank, from a new one on: just those vectors are requested that were asked for, and were not cleared since.
func TestP153LongRows(t *testing.T) {
	d := dice(4)
	for range 60 {
		k := book{wait: map[int]int{}}
		for range 3000 {
			switch d.below(12) {
			case 0:
				k.pins(uint8(d.below(256)))
			case 1:
				k.arrive(uint8(d.below(256)))
			case 2:
				k.write(d.below(api.IrqMask), d.value())
			case 3:
				k.write(api.UartData, d.value())
			case 4:
				k.write([]int{api.IrqMask, api.IrqPend, api.IrqClear}[d.below(3)], d.value())
			case 5:
				k.write(api.IrqClear, 255)
			case 6:
				_, k.b = bank.Read(k.b, d.below(15))
			default:
				k.tick()
			}
			k.want(t)
		}
	}
}

// P15.3: a request that comes while the vector is requested already, or is not allowed, is none the less one request; it is gone when it is cleared, and comes again when it is asked for again.
func TestP153Again(t *testing.T) {
	b := bank.Write(bank.Write(bank.Bank{}, api.GpioEdge, 1), api.UartCtl, 1)
	b = bank.Pins(bank.Pins(bank.Pins(b, 1), 0), 1)
	b = bank.Arrive(bank.Arrive(b, 1), 2)
	wantPeek(t, b, api.IrqPend, 3)
	b = bank.Write(b, api.IrqClear, 1)
	wantPeek(t, b, api.IrqPend, 2)
	b = bank.Pins(b, 1)
	wantPeek(t, b, api.IrqPend, 2)
	b = bank.Pins(bank.Pins(b, 0), 1)
	wantPeek(t, b, api.IrqPend, 3)
	b = bank.Write(b, api.IrqClear, 2)
	wantPeek(t, b, api.IrqPend, 1)
	wantPeek(t, bank.Arrive(b, 3), api.IrqPend, 3)
}

// parts are a bank's devices, by the numbers in which the chapter names them.
func parts(b bank.Bank) [5]any {
	return [5]any{b.Gpio, b.Uart, b.T[0], b.T[1], b.Irq}
}

// P15.3: what is written to one device changes no other one, also none that is no uart, nor does it request anything.
func TestP153WritesApart(t *testing.T) {
	values := someValues()
	for i, b := range someBanks() {
		was := parts(b)
		for reg := range 15 {
			for j := range 6 {
				v := values[(i*5+reg*3+j*11)%len(values)]
				for device, after := range parts(bank.Write(b, reg, v)) {
					if device != reg/3 && after != was[device] {
						t.Errorf("Write(%v, %d, %d): the device %d became %v", b, reg, v, device, after)
					}
				}
			}
		}
	}
}

// P15.3: what is written to the devices, in whatever order of these, makes the same bank, and each of them is as it would be alone.
func TestP153WritesInAnyOrder(t *testing.T) {
	d := dice(5)
	for range 3000 {
		b := d.bank()
		var values [5]int32
		for device := range values {
			values[device] = d.value()
		}
		place := d.below(3)
		up, down := b, b
		for device := range 5 {
			up = bank.Write(up, device*3+place, values[device])
			down = bank.Write(down, (4-device)*3+place, values[4-device])
		}
		if up != down {
			t.Errorf("%v became %v, and %v", b, up, down)
		}
		for device, after := range parts(up) {
			if alone := parts(bank.Write(b, device*3+place, values[device]))[device]; after != alone {
				t.Errorf("of %v the device %d became %v, alone %v", b, device, after, alone)
			}
		}
	}
}

// P15.3: the timers and the uart may tick in any order: of banks of all kinds, and of any, all six orders make what Tick does.
func TestP153TicksInAnyOrder(t *testing.T) {
	d := dice(6)
	all := someBanks()
	for range 20000 {
		all = append(all, d.bank())
	}
	for _, b := range all {
		for _, order := range orders() {
			after, sent, is := ticked(b, order)
			wantTick(t, b, after, sent, is)
		}
	}
}

// P15.3: a tick is what it is of each of the timers, and of the uart, with the others at rest: put together, that is the bank.
func TestP153TicksApart(t *testing.T) {
	d := dice(7)
	for range 20000 {
		b := d.bank()
		rest := bank.Bank{Gpio: b.Gpio, Irq: b.Irq}
		first, second, last := rest, rest, rest
		first.T[0], second.T[1], last.Uart = b.T[0], b.T[1], b.Uart
		first, sent0, is0 := bank.Tick(first)
		second, sent1, is1 := bank.Tick(second)
		last, sent, is := bank.Tick(last)
		if sent0 != 0 || is0 || sent1 != 0 || is1 {
			t.Errorf("%v: the timers send %d, %v, and %d, %v", b, sent0, is0, sent1, is1)
		}
		pends := first.Irq.Pend | second.Irq.Pend | last.Irq.Pend
		wantTick(t, b, bank.Bank{Gpio: b.Gpio, Uart: last.Uart, T: [2]timer.Timer{first.T[0], second.T[1]}, Irq: irq.Irq{Mask: b.Irq.Mask, Pend: pends}}, sent, is)
	}
}

// P15.3: with the two timers changed for each other, they and their requests are, and all else is the same.
func TestP153TimersChanged(t *testing.T) {
	d := dice(8)
	for range 20000 {
		b := d.bank()
		b.Irq.Pend &^= 24
		changed := b
		changed.T[0], changed.T[1] = b.T[1], b.T[0]
		want, sent, is := bank.Tick(b)
		was := want.Irq.Pend
		want.T[0], want.T[1] = want.T[1], want.T[0]
		want.Irq.Pend = was&^24 | was&8<<1 | was&16>>1
		wantTick(t, changed, want, sent, is)
	}
}

// P15.3: pins and bytes leave the timers, and each other; ticks leave the pins, what was received, and what is allowed.
func TestP153ComesApart(t *testing.T) {
	for i, b := range someBanks() {
		pinned, arrived := bank.Pins(b, uint8(i*3)), bank.Arrive(b, uint8(i))
		ticked, _, _ := bank.Tick(b)
		if pinned.Uart != b.Uart || pinned.T != b.T || pinned.Irq.Mask != b.Irq.Mask {
			t.Errorf("Pins(%v, %d): %v", b, uint8(i*3), pinned)
		}
		if arrived.Gpio != b.Gpio || arrived.T != b.T || arrived.Irq.Mask != b.Irq.Mask || arrived.Uart.Tx != uart.Mend(b.Uart).Tx {
			t.Errorf("Arrive(%v, %d): %v", b, uint8(i), arrived)
		}
		if ticked.Gpio != b.Gpio || ticked.Irq.Mask != b.Irq.Mask || ticked.Uart.Rx != uart.Mend(b.Uart).Rx || ticked.Uart.Lost != b.Uart.Lost || ticked.Uart.Ctl != b.Uart.Ctl {
			t.Errorf("Tick(%v): %v", b, ticked)
		}
	}
}
