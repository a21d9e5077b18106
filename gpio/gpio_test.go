package gpio_test

import (
	"math"
	"testing"

	"plover/api"
	"plover/gpio"
)

// P11.1: the chapter's examples of Peek and Write.
func TestP111Examples(t *testing.T) {
	wantWrite(t, gpio.Gpio{}, api.GpioEdge, 261, gpio.Gpio{Edge: 5})
	wantPeek(t, gpio.Gpio{Edge: 5}, api.GpioEdge, 5)
	wantWrite(t, gpio.Gpio{In: 3}, api.GpioIn, 9, gpio.Gpio{In: 3})
	wantPeek(t, gpio.Gpio{In: 3}, api.GpioIn, 3)
}

// P11.1: gpio's registers are 0, 1 and 2, by these names.
func TestP111Numbers(t *testing.T) {
	g := gpio.Gpio{Out: 10, In: 20, Edge: 30}
	wantPeek(t, g, 0, 10)
	wantPeek(t, g, 1, 20)
	wantPeek(t, g, 2, 30)
	wantPeek(t, g, api.GpioOut, 10)
	wantPeek(t, g, api.GpioIn, 20)
	wantPeek(t, g, api.GpioEdge, 30)
}

// P11.1: a register shows each byte as it is, none of them below 0, and none of another register's.
func TestP111PeekEachByte(t *testing.T) {
	for b := range 256 {
		for _, g := range somePins() {
			out, in, edge := g, g, g
			out.Out, in.In, edge.Edge = uint8(b), uint8(b), uint8(b)
			wantPeek(t, out, api.GpioOut, int32(b))
			wantPeek(t, in, api.GpioIn, int32(b))
			wantPeek(t, edge, api.GpioEdge, int32(b))
			wantPeek(t, in, api.GpioOut, int32(g.Out))
			wantPeek(t, edge, api.GpioOut, int32(g.Out))
			wantPeek(t, out, api.GpioIn, int32(g.In))
			wantPeek(t, edge, api.GpioIn, int32(g.In))
			wantPeek(t, out, api.GpioEdge, int32(g.Edge))
			wantPeek(t, in, api.GpioEdge, int32(g.Edge))
		}
	}
}

// P11.1: registers that are none of gpio's show 0, and stay, whatever is written.
func TestP111OtherRegisters(t *testing.T) {
	for _, reg := range others() {
		for _, g := range somePins() {
			wantPeek(t, g, reg, 0)
			for _, v := range someValues() {
				wantWrite(t, g, reg, v, g)
			}
		}
	}
	for _, reg := range []int{-2, -1, 3, api.LastReg, api.LastReg + 1, api.LastReg + 2, math.MinInt, math.MaxInt} {
		wantPeek(t, gpio.Gpio{Out: 255, In: 255, Edge: 255}, reg, 0)
		wantWrite(t, gpio.Gpio{Out: 1, In: 2, Edge: 3}, reg, 9, gpio.Gpio{Out: 1, In: 2, Edge: 3})
	}
}

// P11.1: the pins in can't be written.
func TestP111WriteOfIn(t *testing.T) {
	for _, g := range somePins() {
		for _, v := range someValues() {
			wantWrite(t, g, api.GpioIn, v, g)
			wantPeek(t, gpio.Write(g, api.GpioIn, v), api.GpioIn, int32(g.In))
		}
	}
}

// P11.1: of a value its lowest byte is written, also of one below 0, of 256 and more, of the least and the greatest.
func TestP111WriteRows(t *testing.T) {
	for _, r := range []struct {
		v    int32
		want uint8
	}{
		{0, 0}, {1, 1}, {127, 127}, {128, 128}, {255, 255},
		{256, 0}, {257, 1}, {261, 5}, {511, 255}, {512, 0}, {65535, 255}, {65536, 0}, {65541, 5},
		{-1, 255}, {-2, 254}, {-128, 128}, {-129, 127}, {-255, 1}, {-256, 0}, {-257, 255},
		{math.MaxInt32, 255}, {math.MaxInt32 - 1, 254}, {math.MinInt32, 0}, {math.MinInt32 + 1, 1},
	} {
		for _, g := range somePins() {
			wantWrite(t, g, api.GpioOut, r.v, gpio.Gpio{Out: r.want, In: g.In, Edge: g.Edge})
			wantWrite(t, g, api.GpioEdge, r.v, gpio.Gpio{Out: g.Out, In: g.In, Edge: r.want})
		}
	}
}

// P11.1: what was written is shown, and the other registers show what they did, against the tests' own reckoning.
func TestP111WriteThenPeek(t *testing.T) {
	for _, g := range somePins() {
		for _, v := range someValues() {
			for reg := -2; reg <= api.LastReg+2; reg++ {
				after := gpio.Write(g, reg, v)
				wantWrite(t, g, reg, v, written(g, reg, v))
				for look := -2; look <= api.LastReg+2; look++ {
					wantPeek(t, after, look, shown(written(g, reg, v), look))
				}
			}
		}
	}
}

// P11.1: any writes one behind the other, of any registers, with levels that come between them.
func TestP111AnyWalks(t *testing.T) {
	d := dice(1)
	for range 500 {
		g := d.pins()
		for range 60 {
			reg, v := d.below(6)-1, int32(d.below(1<<31))-int32(d.below(1<<31))
			wantWrite(t, g, reg, v, written(g, reg, v))
			g = gpio.Write(g, reg, v)
			if d.below(3) == 0 {
				level := d.level()
				wantPins(t, g, level, asked(g, level))
				g, _ = gpio.Pins(g, level)
			}
			wantPeek(t, g, reg, shown(g, reg))
		}
	}
}

// P11.1: what is handed in stays as it is, and the same call answers the same again.
func TestP111WhatIsHandedInStays(t *testing.T) {
	for _, g := range somePins() {
		kept := g
		for reg := -1; reg <= 3; reg++ {
			first := gpio.Write(g, reg, ^0x5a)
			shown := gpio.Peek(g, reg)
			gpio.Pins(g, 0xa5)
			wantWrite(t, g, reg, ^0x5a, first)
			wantPeek(t, g, reg, shown)
		}
		if g != kept {
			t.Errorf("%v became %v", kept, g)
		}
	}
}
