package bank_test

import (
	"testing"

	"plover/api"
	"plover/bank"
	"plover/gpio"
	"plover/irq"
	"plover/timer"
	"plover/uart"
)

// P15.2: the vectors have the numbers that the chapter says, and stand among those that there are.
func TestP152Vectors(t *testing.T) {
	got := [...]int{bank.VecPins, bank.VecByte, bank.VecSent, bank.VecT0, bank.VecT1}
	if got != [...]int{0, 1, 2, 3, 4} {
		t.Errorf("the vectors are %v", got)
	}
}

// P15.2: pins that rise and do not, looked at and not: VecPins is requested just if one that is looked at rises; the levels come in any case.
func TestP152Pins(t *testing.T) {
	for _, r := range []struct {
		in, edge, level uint8
		asks            bool
	}{
		{0, 0, 255, false}, {0, 255, 0, false}, {255, 255, 0, false}, {255, 255, 255, false}, {0, 1, 1, true}, {0, 1, 254, false}, {1, 1, 1, false}, {1, 1, 3, false}, {1, 2, 3, true}, {2, 3, 1, true}, {0, 128, 128, true}, {0, 128, 127, false}, {127, 255, 128, true}, {128, 128, 0, false},
	} {
		for _, c := range someControllers() {
			b := marked()
			b.Gpio = gpio.Gpio{Out: 77, In: r.in, Edge: r.edge}
			b.Irq = c
			want := b
			want.Gpio.In = r.level
			if r.asks {
				want.Irq.Pend |= 1
			}
			wantPins(t, b, r.level, want)
			wantPins(t, want, r.level, want)
		}
	}
}

// P15.2: all levels that were, and are, against the tests' own reckoning.
func TestP152PinsOfAll(t *testing.T) {
	for in := range 256 {
		for level := range 256 {
			b := bank.Bank{Gpio: gpio.Gpio{In: uint8(in), Edge: uint8(in*37 + level*11)}, Irq: irq.Irq{Pend: uint8(in * level)}}
			wantPins(t, b, uint8(level), pinned(b, uint8(level)))
		}
	}
	for i, b := range someBanks() {
		for _, level := range []uint8{0, 1, 0x55, 0xaa, 254, 255, uint8(i)} {
			wantPins(t, b, level, pinned(b, level))
		}
	}
}

// P15.2: bytes that come, with and without Ctl asking, to queues of each Len: VecByte is requested just if Ctl asks, and there is room.
func TestP152Arrive(t *testing.T) {
	for ctl := range 256 {
		for n := range 9 {
			b := marked()
			b.Uart = uart.Uart{Rx: queue(n, []uint8{1, 2, 3, 4, 5, 6, 7, 8}[:n]...), Tx: queue(1, 99), Ctl: uint8(ctl), Count: 2}
			b.Irq = irq.Irq{Mask: uint8(ctl), Pend: 0xe0}
			want := b
			if n == 8 {
				want.Uart.Lost = true
			} else {
				want.Uart.Rx.Bytes[n] = 200
				want.Uart.Rx.Len++
			}
			if n < 8 && ctl%2 == 1 {
				want.Irq.Pend = 0xe2
			}
			wantArrive(t, b, 200, want)
		}
	}
}

// P15.2: each byte, to banks of all kinds, against the tests' own reckoning.
func TestP152ArriveOfAll(t *testing.T) {
	for i, b := range someBanks() {
		for _, c := range []uint8{0, 1, 65, 127, 128, 255, uint8(i)} {
			wantArrive(t, b, c, arrived(b, c))
		}
	}
	for c := range 256 {
		b := bank.Arrive(bank.Bank{}, uint8(c))
		wantPeek(t, b, api.UartData, int32(c))
		wantPeek(t, b, api.IrqPend, 0)
	}
}

// P15.2: ticks in which each of the two timers and the uart asks, and does not, in all ways: what asks is requested, with what was; a byte is told just if one is sent.
func TestP152TickEachWay(t *testing.T) {
	for way := range 8 {
		for _, c := range someControllers() {
			b := bank.Bank{Gpio: gpio.Gpio{Out: 1, In: 2, Edge: 3}, Irq: c}
			b.T = [2]timer.Timer{{Count: 1, Comp: 9, Ctl: 3}, {Count: 2, Comp: 9, Ctl: 1}}
			b.Uart = uart.Uart{Rx: queue(1, 4), Tx: queue(1, 66), Ctl: 2, Count: 2}
			want := b
			want.T[0].Count, want.T[1].Count, want.Uart.Count = 2, 3, 3
			var sent uint8
			if way&1 != 0 {
				b.T[0].Count, want.T[0].Count = 8, 0
				want.Irq.Pend |= 8
			}
			if way&2 != 0 {
				b.T[1].Count, want.T[1].Count, want.T[1].Ctl = 8, 0, 0
				want.Irq.Pend |= 16
			}
			if way&4 != 0 {
				b.Uart.Count, want.Uart.Count, want.Uart.Tx = 3, 0, queue(0)
				want.Irq.Pend |= 4
				sent = 66
			}
			wantTick(t, b, want, sent, way&4 != 0)
		}
	}
}

// P15.2: of a byte that is sent: the last one requests if Ctl asks, one that is not the last does not, and what is received does not; a byte 0 that is sent is told, too.
func TestP152TickSends(t *testing.T) {
	for _, r := range []struct {
		u, after uart.Uart
		sent     uint8
		is       bool
		pend     uint8
	}{
		{uart.Uart{Ctl: 3}, uart.Uart{Ctl: 3}, 0, false, 0},
		{uart.Uart{Rx: queue(1, 9), Ctl: 3}, uart.Uart{Rx: queue(1, 9), Ctl: 3}, 0, false, 0},
		{uart.Uart{Tx: queue(1, 5), Ctl: 3}, uart.Uart{Tx: queue(1, 5), Ctl: 3, Count: 1}, 0, false, 0},
		{uart.Uart{Tx: queue(1, 5), Ctl: 3, Count: 3}, uart.Uart{Ctl: 3}, 5, true, 4},
		{uart.Uart{Tx: queue(1, 5), Ctl: 1, Count: 3}, uart.Uart{Ctl: 1}, 5, true, 0},
		{uart.Uart{Tx: queue(1, 0), Ctl: 2, Count: 3}, uart.Uart{Ctl: 2}, 0, true, 4},
		{uart.Uart{Tx: queue(1, 0), Count: 3}, uart.Uart{}, 0, true, 0},
		{uart.Uart{Tx: queue(2, 5, 6), Ctl: 3, Count: 3}, uart.Uart{Tx: queue(1, 6), Ctl: 3}, 5, true, 0},
		{uart.Uart{Tx: queue(1, 255), Ctl: 254, Count: 3}, uart.Uart{Ctl: 254}, 255, true, 4},
		{uart.Uart{Tx: queue(1, 255), Ctl: 253, Count: 3}, uart.Uart{Ctl: 253}, 255, true, 0},
		{uart.Uart{Tx: queue(8, 7), Ctl: 3, Count: 3}, uart.Uart{Tx: queue(7), Ctl: 3}, 7, true, 0},
		{uart.Uart{Tx: queue(1, 5, 6), Ctl: 2, Count: 3}, uart.Uart{Ctl: 2}, 5, true, 4},
		{uart.Uart{Tx: queue(1, 5), Ctl: 2, Count: 4}, uart.Uart{Tx: queue(1, 5), Ctl: 2, Count: 1}, 0, false, 0},
		{uart.Uart{Tx: queue(-3, 5), Ctl: 2, Count: 3}, uart.Uart{Ctl: 2}, 0, false, 0},
	} {
		for _, was := range []uint8{0, 1, 4, 0xfb, 255} {
			b, want := marked(), marked()
			b.T, want.T = [2]timer.Timer{}, [2]timer.Timer{}
			b.Uart, want.Uart = r.u, r.after
			b.Irq.Pend, want.Irq.Pend = was, was|r.pend
			wantTick(t, b, want, r.sent, r.is)
		}
	}
}

// P15.2: both timers' ticks, of all pairs, each with its own vector: the first one's is VecT0, the second one's VecT1.
func TestP152TickTimers(t *testing.T) {
	for _, first := range someTimers() {
		for _, second := range someTimers() {
			b := bank.Bank{Gpio: gpio.Gpio{In: 1, Edge: 255}, T: [2]timer.Timer{first, second}, Irq: irq.Irq{Mask: 24, Pend: 64}}
			want := b
			var asks0, asks1 bool
			want.T[0], asks0 = timer.Tick(first)
			want.T[1], asks1 = timer.Tick(second)
			if asks0 {
				want.Irq.Pend += 8
			}
			if asks1 {
				want.Irq.Pend += 16
			}
			wantTick(t, b, want, 0, false)
		}
	}
}

// P15.2: a tick of banks of all kinds, and of any, against the tests' own reckoning.
func TestP152TickOfAll(t *testing.T) {
	for _, b := range someBanks() {
		wantTickReckoned(t, b)
	}
	d := dice(2)
	for range 100000 {
		wantTickReckoned(t, d.bank())
	}
}

// P15.2: any walks, from any bank on, against the tests' own reckoning; each vector comes to be requested often.
func TestP152AnyWalks(t *testing.T) {
	d := dice(3)
	var asked [8]int
	for range 2000 {
		b := d.bank()
		for range 60 {
			was := pend(b)
			switch d.below(7) {
			case 0:
				level := uint8(d.below(256))
				wantPins(t, b, level, pinned(b, level))
				b = bank.Pins(b, level)
			case 1:
				c := uint8(d.below(256))
				wantArrive(t, b, c, arrived(b, c))
				b = bank.Arrive(b, c)
			case 2:
				reg, v := d.below(15), d.value()
				wantWrite(t, b, reg, v, written(b, reg, v))
				b = bank.Write(b, reg, v)
				was = pend(b)
			case 3:
				reg := d.below(15)
				wantReadReckoned(t, b, reg)
				_, b = bank.Read(b, reg)
			default:
				wantTickReckoned(t, b)
				b, _, _ = bank.Tick(b)
			}
			for vector := range 8 {
				asked[vector] += int((pend(b) &^ was) >> vector & 1)
			}
			if d.below(3) == 0 {
				b = bank.Write(b, api.IrqClear, int32(d.below(256)))
			}
		}
	}
	for vector, n := range asked {
		if vector < 5 && n < 500 || vector >= 5 && n > 0 {
			t.Errorf("the vector %d was asked for %d times", vector, n)
		}
	}
}
