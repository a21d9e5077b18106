package irq_test

import (
	"math"
	"testing"

	"plover/api"
	"plover/irq"
)

// P14.1: Request of 1, 3 and 4, as in the chapter's examples; what is requested by IrqPend is shown, and gone by IrqClear.
func TestP141Examples(t *testing.T) {
	c := irq.Irq{Mask: 255}
	wantRequest(t, c, 2+8+16, irq.Irq{Mask: 255, Pend: 26})
	wantWrite(t, c, api.IrqPend, 1, irq.Irq{Mask: 255, Pend: 1})
	wantPeek(t, irq.Irq{Mask: 255, Pend: 26}, api.IrqPend, 26)
	wantWrite(t, irq.Irq{Mask: 255, Pend: 26}, api.IrqClear, 8, irq.Irq{Mask: 255, Pend: 18})
	wantWrite(t, irq.Irq{Mask: 255, Pend: 26}, api.IrqMask, 3, irq.Irq{Mask: 3, Pend: 26})
}

// P14.1: the controller's registers are 12, 13 and 14, by these names; there are eight vectors, so no bit of a byte is none's.
func TestP141Numbers(t *testing.T) {
	c := irq.Irq{Mask: 10, Pend: 20}
	for _, r := range []struct {
		reg  int
		want int32
	}{{12, 10}, {13, 20}, {14, 0}, {api.IrqMask, 10}, {api.IrqPend, 20}, {api.IrqClear, 0}} {
		wantPeek(t, c, r.reg, r.want)
	}
	wantWrite(t, c, 12, 7, irq.Irq{Mask: 7, Pend: 20})
	wantWrite(t, c, 13, 7, irq.Irq{Mask: 10, Pend: 23})
	wantWrite(t, c, 14, 7, irq.Irq{Mask: 10, Pend: 16})
	if api.Vectors != 8 {
		t.Errorf("there are %d vectors", api.Vectors)
	}
}

// P14.1: a register shows each byte as it is, none of them below 0, and none of the other one; IrqClear shows 0.
func TestP141PeekEachByte(t *testing.T) {
	for mask := range 256 {
		for pend := range 256 {
			c := irq.Irq{Mask: uint8(mask), Pend: uint8(pend)}
			wantPeek(t, c, api.IrqMask, int32(mask))
			wantPeek(t, c, api.IrqPend, int32(pend))
			wantPeek(t, c, api.IrqClear, 0)
		}
	}
}

// P14.1: registers that are others', 11 and 15 among them, show 0, and nothing changes, whatever is written to them.
func TestP141OtherRegisters(t *testing.T) {
	for _, reg := range others() {
		for _, c := range someControllers() {
			wantPeek(t, c, reg, 0)
			for _, v := range someValues() {
				wantWrite(t, c, reg, v, c)
			}
		}
	}
	for _, reg := range []int{api.T1Ctl, api.IrqMask - 1, api.LastReg + 1, -1, math.MinInt, math.MaxInt} {
		wantPeek(t, irq.Irq{Mask: 255, Pend: 255}, reg, 0)
		wantWrite(t, irq.Irq{Mask: 1, Pend: 2}, reg, 255, irq.Irq{Mask: 1, Pend: 2})
	}
}

// P14.1: of a value its lowest byte is taken, also of one below 0, of 256 and more, of the least and the greatest.
func TestP141Lowest(t *testing.T) {
	for _, r := range []struct {
		v int32
		b uint8
	}{
		{0, 0}, {1, 1}, {127, 127}, {128, 128}, {255, 255},
		{256, 0}, {257, 1}, {261, 5}, {511, 255}, {512, 0}, {65535, 255}, {65536, 0}, {65541, 5},
		{-1, 255}, {-2, 254}, {-128, 128}, {-129, 127}, {-255, 1}, {-256, 0}, {-257, 255},
		{math.MaxInt32, 255}, {math.MaxInt32 - 1, 254}, {math.MinInt32, 0}, {math.MinInt32 + 1, 1},
	} {
		for _, other := range sets() {
			wantWrite(t, irq.Irq{Mask: other, Pend: 0x3c}, api.IrqMask, r.v, irq.Irq{Mask: r.b, Pend: 0x3c})
			wantWrite(t, irq.Irq{Mask: other}, api.IrqPend, r.v, irq.Irq{Mask: other, Pend: r.b})
			wantWrite(t, irq.Irq{Mask: other, Pend: 255}, api.IrqClear, r.v, irq.Irq{Mask: other, Pend: 255 - r.b})
			wantWrite(t, irq.Irq{Mask: other, Pend: 255}, api.IrqPend, r.v, irq.Irq{Mask: other, Pend: 255})
			wantWrite(t, irq.Irq{Mask: other}, api.IrqClear, r.v, irq.Irq{Mask: other})
		}
	}
}

// P14.1: each byte, written to each register of each controller, and requested, against the tests' own reckoning: by IrqMask Mask alone is set, by the others Pend alone grows, or falls.
func TestP141OfAll(t *testing.T) {
	for pend := range 256 {
		for b := range 256 {
			c := irq.Irq{Mask: uint8(pend*7 + b*29), Pend: uint8(pend)}
			for reg := 11; reg <= 15; reg++ {
				wantWrite(t, c, reg, int32(b), written(c, reg, int32(b)))
			}
			wantRequest(t, c, uint8(b), requested(c, uint8(b)))
		}
	}
	for mask := range 256 {
		c := irq.Irq{Mask: uint8(mask), Pend: 0x5a}
		for b := range 256 {
			wantWrite(t, c, api.IrqMask, int32(b), irq.Irq{Mask: uint8(b), Pend: 0x5a})
		}
	}
}

// P14.1: Request of none changes nothing, of all requests all; what was requested stays so, and Mask does, too.
func TestP141Request(t *testing.T) {
	for mask := range 256 {
		for pend := range 256 {
			c := irq.Irq{Mask: uint8(mask), Pend: uint8(pend)}
			wantRequest(t, c, 0, c)
			wantRequest(t, c, uint8(pend), c)
			wantRequest(t, c, 255, irq.Irq{Mask: uint8(mask), Pend: 255})
			wantRequest(t, c, 255-uint8(pend), irq.Irq{Mask: uint8(mask), Pend: 255})
		}
	}
	for v := range 8 {
		wantRequest(t, irq.Irq{}, 1<<v, irq.Irq{Pend: 1 << v})
		wantRequest(t, irq.Irq{Pend: 255 - 1<<v}, 1<<v, irq.Irq{Pend: 255})
	}
}

// P14.1: what is written to IrqPend is what Request does, and IrqClear of the same takes it back, if none of it was requested.
func TestP141PendIsRequest(t *testing.T) {
	for _, c := range someControllers() {
		for _, v := range someValues() {
			wantWrite(t, c, api.IrqPend, v, irq.Request(c, lowest(v)))
			fresh := int32(lowest(v) - lowest(v)&c.Pend)
			wantWrite(t, irq.Write(c, api.IrqPend, fresh), api.IrqClear, fresh, c)
		}
	}
}

// P14.1: any writes one behind the other, of any registers, with requests between them, against the tests' own reckoning.
func TestP141AnyWalks(t *testing.T) {
	d := dice(1)
	for range 1000 {
		c := irq.Irq{Mask: d.set(), Pend: d.set()}
		for range 60 {
			reg, v := 10+d.below(7), int32(d.below(1<<31))-int32(d.below(1<<31))
			wantWrite(t, c, reg, v, written(c, reg, v))
			c = irq.Write(c, reg, v)
			if d.below(3) == 0 {
				bits := d.set()
				wantRequest(t, c, bits, requested(c, bits))
				c = irq.Request(c, bits)
			}
			for look := 10; look <= 16; look++ {
				wantPeek(t, c, look, shown(c, look))
			}
		}
	}
}

// P14.1: what is handed in stays as it is, and the same call answers the same again.
func TestP141WhatIsHandedInStays(t *testing.T) {
	for _, c := range someControllers() {
		kept := c
		for reg := 11; reg <= 15; reg++ {
			first, shown := irq.Write(c, reg, 0x5a), irq.Peek(c, reg)
			irq.Request(c, 0xa5)
			irq.Taken(c, 3)
			wantWrite(t, c, reg, 0x5a, first)
			wantPeek(t, c, reg, shown)
		}
		if c != kept {
			t.Errorf("%v became %v", kept, c)
		}
	}
}
