package gpio_test

import (
	"slices"
	"testing"

	"plover/api"
	"plover/gpio"
)

// P11.2: the chapter's examples of Pins and Rising.
func TestP112Examples(t *testing.T) {
	g := gpio.Write(gpio.Gpio{}, api.GpioEdge, 261)
	for _, r := range []struct {
		level uint8
		want  bool
	}{{2, false}, {3, true}, {3, false}, {7, true}} {
		wantPins(t, g, r.level, r.want)
		g, _ = gpio.Pins(g, r.level)
	}
	wantRising(t, 2, 3, 0)
	wantRising(t, 3, 7, 2)
	wantRising(t, 5, 14, 1, 3)
}

// P11.2: no pin rises, one, some, all: where they fall, stay, and rise; the least one ahead.
func TestP112RisingRows(t *testing.T) {
	wantRising(t, 0, 0)
	wantRising(t, 255, 255)
	wantRising(t, 255, 0)
	wantRising(t, 0x5a, 0x5a)
	wantRising(t, 0x5a, 0x12)
	wantRising(t, 0, 1, 0)
	wantRising(t, 0, 128, 7)
	wantRising(t, 127, 255, 7)
	wantRising(t, 254, 255, 0)
	wantRising(t, 128, 1, 0)
	wantRising(t, 1, 128, 7)
	wantRising(t, 127, 128, 7)
	wantRising(t, 128, 127, 0, 1, 2, 3, 4, 5, 6)
	wantRising(t, 0, 0x81, 0, 7)
	wantRising(t, 0xaa, 0x55, 0, 2, 4, 6)
	wantRising(t, 0x55, 0xaa, 1, 3, 5, 7)
	wantRising(t, 0, 255, 0, 1, 2, 3, 4, 5, 6, 7)
}

// P11.2: Rising of all levels, against the tests' own reckoning.
func TestP112RisingOfAll(t *testing.T) {
	for was := range 256 {
		for is := range 256 {
			wantRising(t, uint8(was), uint8(is), risen(uint8(was), uint8(is))...)
		}
	}
}

// P11.2: what Rising answers is the caller's: to change it, and its room, changes no other answer.
func TestP112RisingSharesNothing(t *testing.T) {
	for was := range 256 {
		first, second := gpio.Rising(uint8(was), 255), gpio.Rising(uint8(was), 255)
		want := slices.Clone(second)
		whole := first[:cap(first)]
		for i := range whole {
			whole[i] = -7
		}
		if !slices.Equal(second, want) {
			t.Errorf("Rising(%d, 255): another answer became %v", was, second)
		}
		wantRising(t, uint8(was), 255, want...)
	}
}

// P11.2: pins that are looked at, one, some, none, all: it is asked if one of these rises, not if it falls or stays, nor if another one rises.
func TestP112PinsRows(t *testing.T) {
	for _, r := range []struct {
		edge, was, is uint8
		want          bool
	}{
		{0, 0, 255, false},
		{0, 255, 0, false},
		{255, 0, 0, false},
		{255, 255, 255, false},
		{255, 255, 0, false},
		{255, 0, 255, true},
		{255, 0, 1, true},
		{255, 127, 255, true},
		{255, 254, 255, true},
		{255, 255, 127, false},
		{1, 0, 1, true},
		{1, 1, 1, false},
		{1, 1, 0, false},
		{1, 0, 254, false},
		{1, 1, 255, false},
		{1, 254, 1, true},
		{128, 0, 128, true},
		{128, 128, 128, false},
		{128, 0, 127, false},
		{128, 128, 127, false},
		{128, 127, 128, true},
		{0x18, 0x08, 0x10, true},
		{0x18, 0x10, 0x08, true},
		{0x18, 0x18, 0xe7, false},
		{0x18, 0x18, 0xff, false},
		{0x18, 0x18, 0x10, false},
		{0x18, 0x10, 0x18, true},
		{0xe7, 0xe7, 0x18, false},
		{0xe7, 0x18, 0xe7, true},
	} {
		for _, out := range []uint8{0, 1, 0x5a, 255} {
			wantPins(t, gpio.Gpio{Out: out, In: r.was, Edge: r.edge}, r.is, r.want)
		}
	}
}

// P11.2: Pins of all levels and with all kinds of pins looked at, against the tests' own reckoning; the pins out don't matter, and stay.
func TestP112PinsOfAll(t *testing.T) {
	d := dice(2)
	edges := []uint8{0, 255, 0x55, 0xaa, 0x0f, 0xf0}
	for pin := range 8 {
		edges = append(edges, 1<<pin, ^uint8(1<<pin))
	}
	for _, edge := range edges {
		for was := range 256 {
			for is := range 256 {
				g := gpio.Gpio{Out: d.level(), In: uint8(was), Edge: edge}
				wantPins(t, g, uint8(is), asked(g, uint8(is)))
			}
		}
	}
	for range 500000 {
		g, level := d.pins(), d.level()
		wantPins(t, g, level, asked(g, level))
	}
}

// P11.2: a pin that was up ahead of its being looked at does not rise; what is written to GpioEdge asks for nothing itself, nor later.
func TestP112LookedAtLater(t *testing.T) {
	for pin := range 8 {
		level := uint8(1) << pin
		g := gpio.Gpio{}
		wantPins(t, g, level, false)
		g, _ = gpio.Pins(g, level)
		g = gpio.Write(g, api.GpioEdge, 255)
		wantPins(t, g, level, false)
		wantPins(t, g, 0, false)
		g, _ = gpio.Pins(g, 0)
		wantPins(t, g, level, true)
	}
}

// P11.2: a row of levels, one behind the other: each is held against the one ahead of it alone.
func TestP112Walks(t *testing.T) {
	d := dice(3)
	for range 2000 {
		g := d.pins()
		before := g.In
		for range 30 {
			level := d.level() & d.level()
			want := asked(gpio.Gpio{In: before, Edge: g.Edge}, level)
			wantPins(t, g, level, want)
			g, _ = gpio.Pins(g, level)
			before = level
		}
	}
}

// P11.3: a level that comes twice asks for nothing the second time, and changes nothing.
func TestP113Twice(t *testing.T) {
	d := dice(4)
	for was := range 256 {
		for is := range 256 {
			g := gpio.Gpio{Out: d.level(), In: uint8(was), Edge: d.level()}
			for _, edge := range []uint8{g.Edge, 255, uint8(is), uint8(is &^ was)} {
				g.Edge = edge
				once, _ := gpio.Pins(g, uint8(is))
				wantPins(t, once, uint8(is), false)
				if twice, _ := gpio.Pins(once, uint8(is)); twice != once {
					t.Errorf("Pins(%v, %d): %v", once, is, twice)
				}
			}
			wantRising(t, uint8(is), uint8(is))
		}
	}
}

// P11.3: what asks with some pins looked at asks with more of them.
func TestP113More(t *testing.T) {
	d := dice(5)
	count := 0
	for range 300000 {
		g, level := d.pins(), d.level()
		g.Edge &= d.level()
		more := g
		more.Edge |= d.level()
		_, some := gpio.Pins(g, level)
		_, all := gpio.Pins(more, level)
		if some && !all {
			t.Errorf("Pins(%v, %d) asks, but not with more pins looked at: %v", g, level, more)
		}
		if some {
			count++
		}
	}
	if count < 100000 {
		t.Errorf("only %d asked", count)
	}
}

// P11.3: of several pins that are looked at it is asked just if it would be of one of them alone.
func TestP113Several(t *testing.T) {
	d := dice(6)
	for edge := range 256 {
		for range 1500 {
			g, level := d.pins(), d.level()
			if d.below(2) == 0 {
				level = g.In ^ 1<<d.below(8) // one pin alone rises, or falls
			}
			g.Edge = uint8(edge)
			one := false
			for pin, looked := range row(g.Edge) {
				alone := g
				alone.Edge = 1 << pin
				_, is := gpio.Pins(alone, level)
				one = one || is && looked == 1
			}
			wantPins(t, g, level, one)
		}
	}
}

// P11.3: one pin that is looked at asks just if it is among those that rise.
func TestP113OneAlone(t *testing.T) {
	for pin := range 8 {
		for was := range 256 {
			for is := range 256 {
				g := gpio.Gpio{In: uint8(was), Edge: 1 << pin}
				wantPins(t, g, uint8(is), slices.Contains(gpio.Rising(uint8(was), uint8(is)), pin))
			}
		}
	}
}
