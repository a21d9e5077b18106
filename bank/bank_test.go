package bank_test

import (
	"math"
	"testing"

	"plover/api"
	"plover/bank"
	"plover/irq"
	"plover/timer"
	"plover/uart"
)

// P15.1, P15.2: the chapter's examples, one behind the other.
func TestP151Examples(t *testing.T) {
	b := bank.Pins(bank.Write(bank.Bank{}, api.GpioEdge, 1), 1)
	wantPeek(t, b, api.IrqPend, 1)
	b = bank.Arrive(bank.Write(b, api.UartCtl, 3), 65)
	wantPeek(t, b, api.IrqPend, 3)
	v, b := bank.Read(b, api.UartData)
	if v != 65 {
		t.Errorf("Read of UartData: %d", v)
	}
	wantPeek(t, b, api.UartStat, 0)
	b = bank.Write(bank.Write(b, api.T1Comp, 2), api.T1Ctl, 3)
	b, _, _ = bank.Tick(b)
	wantPeek(t, b, api.IrqPend, 3)
	b, _, _ = bank.Tick(b)
	wantPeek(t, b, api.IrqPend, 19)
	b = bank.Write(b, api.UartData, 66)
	for tick := 1; tick <= 4; tick++ {
		after, sent, is := bank.Tick(b)
		if is != (tick == 4) || is && sent != 66 || !is && sent != 0 {
			t.Errorf("the %d. tick: %d, %v", tick, sent, is)
		}
		b = after
	}
	wantPeek(t, b, api.IrqPend, 23)
	wantPeek(t, bank.Write(b, api.IrqClear, 255), api.IrqPend, 0)
}

// P15.1: each register is of the device, and shows the number, that the chapter says.
func TestP151EachRegister(t *testing.T) {
	want := [15]int32{10, 11, 12, 13, 5, 15, 1600, 1700, 1800, 19000, 20000, 65535, 22, 23, 0}
	for reg, v := range want {
		wantPeek(t, marked(), reg, v)
		wantRead(t, marked(), reg, v, read(marked(), reg))
	}
	wantAll(t, marked(), want)
	wantAll(t, bank.Bank{}, [15]int32{})
}

// P15.1: the registers' names, by their numbers: each of them sets just the field that it names.
func TestP151WritesByName(t *testing.T) {
	with := func(change func(b *bank.Bank)) bank.Bank {
		b := marked()
		change(&b)
		return b
	}
	for _, r := range []struct {
		name, reg int
		want      bank.Bank
	}{
		{api.GpioOut, 0, with(func(b *bank.Bank) { b.Gpio.Out = 7 })},
		{api.GpioIn, 1, marked()},
		{api.GpioEdge, 2, with(func(b *bank.Bank) { b.Gpio.Edge = 7 })},
		{api.UartData, 3, with(func(b *bank.Bank) { b.Uart.Tx = queue(1, 7) })},
		{api.UartStat, 4, marked()},
		{api.UartCtl, 5, with(func(b *bank.Bank) { b.Uart.Ctl = 7 })},
		{api.T0Count, 6, with(func(b *bank.Bank) { b.T[0].Count = 7 })},
		{api.T0Comp, 7, with(func(b *bank.Bank) { b.T[0].Comp = 7 })},
		{api.T0Ctl, 8, with(func(b *bank.Bank) { b.T[0].Ctl = 7 })},
		{api.T1Count, 9, with(func(b *bank.Bank) { b.T[1].Count = 7 })},
		{api.T1Comp, 10, with(func(b *bank.Bank) { b.T[1].Comp = 7 })},
		{api.T1Ctl, 11, with(func(b *bank.Bank) { b.T[1].Ctl = 7 })},
		{api.IrqMask, 12, with(func(b *bank.Bank) { b.Irq.Mask = 7 })},
		{api.IrqPend, 13, with(func(b *bank.Bank) { b.Irq.Pend = 23 })},
		{api.IrqClear, 14, with(func(b *bank.Bank) { b.Irq.Pend = 16 })},
	} {
		if r.name != r.reg {
			t.Errorf("the register %d is named %d", r.reg, r.name)
		}
		wantWrite(t, marked(), r.reg, 7, r.want)
	}
	wantWrite(t, marked(), 13, 8, with(func(b *bank.Bank) { b.Irq.Pend = 31 }))
}

// P15.1: of the pins, the uart and the controller a value's lowest byte is taken, of a timer its lowest 16 bits: also of one below 0, of 256 and above, of the least and the greatest.
func TestP151LowestBits(t *testing.T) {
	for _, r := range []struct {
		v, low, wide int32
	}{
		{0, 0, 0}, {255, 255, 255}, {256, 0, 256}, {321, 65, 321}, {-1, 255, 65535}, {-2, 254, 65534}, {-256, 0, 65280}, {-257, 255, 65279}, {65535, 255, 65535}, {65536, 0, 0}, {65541, 5, 5},
		{math.MaxInt32, 255, 65535}, {math.MaxInt32 - 1, 254, 65534}, {math.MinInt32, 0, 0}, {math.MinInt32 + 1, 1, 1},
	} {
		for _, reg := range []int{api.GpioOut, api.GpioEdge, api.UartCtl, api.IrqMask, api.IrqPend} {
			wantPeek(t, bank.Write(bank.Bank{}, reg, r.v), reg, r.low)
		}
		for _, reg := range []int{api.T0Count, api.T0Comp, api.T0Ctl, api.T1Count, api.T1Comp, api.T1Ctl} {
			wantPeek(t, bank.Write(bank.Bank{}, reg, r.v), reg, r.wide)
		}
		wantWrite(t, bank.Bank{}, api.UartData, r.v, bank.Bank{Uart: uart.Uart{Tx: queue(1, uint8(r.low))}})
		wantWrite(t, bank.Bank{Irq: irq.Irq{Pend: 255}}, api.IrqClear, r.v, bank.Bank{Irq: irq.Irq{Pend: 255 - uint8(r.low)}})
		for _, reg := range []int{api.GpioIn, api.UartStat} {
			wantWrite(t, bank.Bank{}, reg, r.v, bank.Bank{})
		}
	}
}

// P15.1: numbers that are none's show 0, and leave the very same bank when they are read, or written, also one whose uart is none.
func TestP151NoRegisters(t *testing.T) {
	full := bank.Bank{Uart: uart.Uart{Rx: queue(9, 1, 2, 3), Tx: queue(-1, 4), Lost: true, Ctl: 255, Count: 99}, T: [2]timer.Timer{{Count: 1, Comp: 2, Ctl: 3}, {Count: 4, Comp: 5, Ctl: 6}}, Irq: irq.Irq{Mask: 255, Pend: 255}}
	for _, reg := range noRegisters() {
		for i, b := range someBanks() {
			if i%41 == 0 {
				wantPeek(t, b, reg, 0)
				wantRead(t, b, reg, 0, b)
				wantWrite(t, b, reg, int32(i*77), b)
			}
		}
		for _, b := range []bank.Bank{marked(), full} {
			wantPeek(t, b, reg, 0)
			wantRead(t, b, reg, 0, b)
			for _, v := range someValues() {
				wantWrite(t, b, reg, v, b)
			}
		}
	}
}

// P15.1: all registers of all banks, against the tests' own reckoning; All shows of each number what Peek of it does.
func TestP151ReadOfAll(t *testing.T) {
	for _, b := range someBanks() {
		var want [15]int32
		for reg := -3; reg <= 18; reg++ {
			wantReadReckoned(t, b, reg)
			if reg >= 0 && reg <= 14 {
				want[reg] = bank.Peek(b, reg)
			}
		}
		wantAll(t, b, want)
	}
}

// P15.1: a read leaves the bank as it was, in each of its parts, but for the uart's registers: of these UartData is taken, and UartStat tells once that a byte was lost.
func TestP151ReadLeaves(t *testing.T) {
	for _, b := range someBanks() {
		for reg := range 15 {
			_, after := bank.Read(b, reg)
			if reg >= api.UartData && reg <= api.UartCtl {
				after.Uart = b.Uart
			}
			if after != b {
				t.Errorf("Read(%v, %d) leaves %v", b, reg, after)
			}
		}
	}
	b := bank.Bank{Uart: uart.Uart{Rx: queue(2, 8, 9), Tx: queue(1, 5), Lost: true, Ctl: 3, Count: 2}}
	wantRead(t, b, api.UartData, 8, bank.Bank{Uart: uart.Uart{Rx: queue(1, 9), Tx: queue(1, 5), Lost: true, Ctl: 3, Count: 2}})
	wantRead(t, b, api.UartStat, 5, bank.Bank{Uart: uart.Uart{Rx: queue(2, 8, 9), Tx: queue(1, 5), Ctl: 3, Count: 2}})
	wantRead(t, b, api.UartCtl, 3, b)
	wantRead(t, bank.Bank{}, api.UartData, 0, bank.Bank{})
}

// P15.1: a uart that is none is shown as the one that is mended; a read, or a write, of its registers leaves that one, and what is done to others leaves it as it is.
func TestP151OddUarts(t *testing.T) {
	for _, u := range oddUarts() {
		b := marked()
		b.Uart = u
		mended := b
		mended.Uart = uart.Mend(u)
		if mended == b {
			t.Errorf("%v is a uart", u)
		}
		wantRead(t, b, api.UartCtl, int32(u.Ctl), mended)
		wantWrite(t, b, api.UartCtl, int32(u.Ctl), mended)
		wantWrite(t, b, api.UartStat, 255, mended)
		for _, reg := range []int{api.GpioIn, 15, -1} {
			wantWrite(t, b, reg, 255, b)
		}
		for _, reg := range []int{0, 1, 2, 6, 7, 8, 9, 10, 11, 12, 13, 14, 15, -1} {
			wantRead(t, b, reg, shown(mended, reg), b)
			if after := bank.Write(b, reg, 0x1234); after.Uart != u {
				t.Errorf("Write(%v, %d) leaves the uart %v", b, reg, after.Uart)
			}
		}
	}
}

// P15.1: each value, written to each register of banks of all kinds, against the tests' own reckoning.
func TestP151WriteOfAll(t *testing.T) {
	values := someValues()
	for i, b := range someBanks() {
		for reg := -3; reg <= 18; reg++ {
			for j := range 12 {
				v := values[(i*13+reg+3+j*7)%len(values)]
				wantWrite(t, b, reg, v, written(b, reg, v))
			}
		}
	}
	for _, b := range []bank.Bank{{}, marked()} {
		for reg := range 15 {
			for _, v := range values {
				wantWrite(t, b, reg, v, written(b, reg, v))
			}
		}
	}
}

// P15.1: any reads and writes one behind the other, against the tests' own reckoning.
func TestP151AnyWalks(t *testing.T) {
	d := dice(1)
	for range 1500 {
		b := d.bank()
		for range 40 {
			reg, v := d.below(17)-1, d.value()
			wantReadReckoned(t, b, reg)
			wantWrite(t, b, reg, v, written(b, reg, v))
			if d.below(2) == 0 {
				b = bank.Write(b, reg, v)
			} else {
				_, b = bank.Read(b, reg)
			}
		}
	}
}

// P15.1: what is handed in stays as it is, and the same calls answer the same again.
func TestP151WhatIsHandedInStays(t *testing.T) {
	for i, b := range someBanks() {
		if i%7 != 0 {
			continue
		}
		kept := b
		for reg := -1; reg <= 15; reg++ {
			v, after := bank.Read(b, reg)
			first := bank.Write(b, reg, 0x5a5)
			bank.Pins(b, 255)
			bank.Arrive(b, 9)
			bank.Tick(b)
			all := bank.All(b)
			all[3]++
			wantPeek(t, b, reg, v)
			wantRead(t, b, reg, v, after)
			wantWrite(t, b, reg, 0x5a5, first)
		}
		if b != kept {
			t.Errorf("%v became %v", kept, b)
		}
	}
}
