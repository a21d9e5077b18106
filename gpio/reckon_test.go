package gpio_test

import (
	"math"
	"slices"
	"testing"

	"plover/api"
	"plover/gpio"
)

// This is the tests' own reckoning: levels as a row of eight numbers, each 0 or 1, the lowest bit's ahead.

// row answers the levels of a byte's pins.
func row(b uint8) [8]int {
	var all [8]int
	for pin, rest := 0, int(b); rest > 0; pin, rest = pin+1, rest/2 {
		all[pin] = rest % 2
	}
	return all
}

// risen answers the numbers of the pins that rise.
func risen(was, is uint8) []int {
	var all []int
	before := row(was)
	for pin, level := range row(is) {
		if level > before[pin] {
			all = append(all, pin)
		}
	}
	return all
}

// asked tells whether one of the pins that are looked at is among those that rise.
func asked(g gpio.Gpio, level uint8) bool {
	edge := row(g.Edge)
	return slices.ContainsFunc(risen(g.In, level), func(pin int) bool { return edge[pin] == 1 })
}

// lowest answers the lowest byte of a number: what is left of it, as one from 0 on, by 256.
func lowest(v int32) uint8 {
	return uint8((int64(v)%256 + 256) % 256)
}

// shown answers what a register should show.
func shown(g gpio.Gpio, reg int) int32 {
	switch reg {
	case 0:
		return int32(g.Out)
	case 1:
		return int32(g.In)
	case 2:
		return int32(g.Edge)
	}
	return 0
}

// written answers the pins that should be there, once a register is written.
func written(g gpio.Gpio, reg int, v int32) gpio.Gpio {
	switch reg {
	case 0:
		return gpio.Gpio{Out: lowest(v), In: g.In, Edge: g.Edge}
	case 2:
		return gpio.Gpio{Out: g.Out, In: g.In, Edge: lowest(v)}
	}
	return g
}

// others are registers that are none of gpio's: of other devices, of none, at both ends, and such that become one of gpio's where bits are lost.
func others() []int {
	all := []int{math.MinInt, math.MinInt + 1, math.MinInt + 2, -1 << 40, -1 << 32, -1<<32 + 2, -65536, -65534, -257, -256, -255, -254, -128, -16, -14, 16, 18, 64, 128, 255, 256, 257, 258, 65536, 65538, 1 << 31, 1 << 32, 1<<32 + 1, 1<<32 + 2, 1 << 40, math.MaxInt - 2, math.MaxInt - 1, math.MaxInt}
	for reg := api.UartData; reg <= api.LastReg+3; reg++ {
		all = append(all, reg, -reg+2)
	}
	return all
}

// someValues are numbers that are written: bytes, those below 0 and from 256 on, both ends, and one bit of each kind.
func someValues() []int32 {
	all := []int32{math.MinInt32, math.MinInt32 + 1, math.MinInt32 + 255, math.MinInt32 + 256, -65537, -65536, -513, -512, -511, -257, -256, -255, -129, -128, -127, -2, -1, 256, 257, 261, 511, 512, 513, 32767, 32768, 65535, 65536, 65541, math.MaxInt32 - 255, math.MaxInt32 - 1, math.MaxInt32}
	for v := range int32(256) {
		all = append(all, v)
	}
	for n := 8; n < 31; n++ {
		all = append(all, 1<<n, 1<<n+0xa5)
	}
	return all
}

// somePins are pins of which each field has bits of its own, and others.
func somePins() []gpio.Gpio {
	return []gpio.Gpio{{}, {Out: 255}, {In: 255}, {Edge: 255}, {Out: 255, In: 255, Edge: 255}, {Out: 1, In: 2, Edge: 4}, {Out: 0x0f, In: 0x33, Edge: 0x55}, {Out: 128, In: 64, Edge: 32}, {Out: 200, In: 100, Edge: 50}, {Out: 127, In: 128, Edge: 129}}
}

// dice makes numbers that look like chance, and are the same each time.
type dice uint64

// below answers a number from 0 on, below n.
func (d *dice) below(n int) int {
	*d = *d*6364136223846793005 + 1442695040888963407
	return int(uint64(*d) >> 33 % uint64(n))
}

// pins answers any pins.
func (d *dice) pins() gpio.Gpio {
	return gpio.Gpio{Out: d.level(), In: d.level(), Edge: d.level()}
}

// level answers any levels.
func (d *dice) level() uint8 {
	return uint8(d.below(256))
}

// wantPeek holds a Peek against what a register should show.
func wantPeek(t *testing.T, g gpio.Gpio, reg int, want int32) {
	t.Helper()
	if got := gpio.Peek(g, reg); got != want {
		t.Errorf("Peek(%v, %d): %d, want %d", g, reg, got, want)
	}
}

// wantWrite holds a Write against the pins that should be there then.
func wantWrite(t *testing.T, g gpio.Gpio, reg int, v int32, want gpio.Gpio) {
	t.Helper()
	if got := gpio.Write(g, reg, v); got != want {
		t.Errorf("Write(%v, %d, %d): %v, want %v", g, reg, v, got, want)
	}
}

// wantPins holds a Pins against what it should ask: In alone is another one then.
func wantPins(t *testing.T, g gpio.Gpio, level uint8, want bool) {
	t.Helper()
	after := gpio.Gpio{Out: g.Out, In: level, Edge: g.Edge}
	if got, is := gpio.Pins(g, level); got != after || is != want {
		t.Errorf("Pins(%v, %d): %v, %v, want %v, %v", g, level, got, is, after, want)
	}
}

// wantRising holds a Rising against the pins that should rise.
func wantRising(t *testing.T, was, is uint8, want ...int) {
	t.Helper()
	if got := gpio.Rising(was, is); !slices.Equal(got, want) {
		t.Errorf("Rising(%d, %d): %v, want %v", was, is, got, want)
	}
}
