package world_test

import (
	"slices"
	"testing"

	"plover/api"
	"plover/world"
)

// P16.2: levels hold from the cycle on at which they come, till another one of their kind does; a byte is there at its cycle alone.
func TestP162At(t *testing.T) {
	l := []api.Input{mask(1, 129), pins(3, 255), byteAt(3, 7), mask(3, 64), byteAt(4, 8), pins(6, 0), mask(8, 0), byteAt(9, 200), pins(10, 1)}
	wantCheck(t, l, -1, api.OK)
	for i, want := range []world.Now{
		{}, {Mask: 129}, {Mask: 129}, {Pins: 255, Mask: 64, IsByte: true, Byte: 7}, {Pins: 255, Mask: 64, IsByte: true, Byte: 8}, {Pins: 255, Mask: 64},
		{Mask: 64}, {Mask: 64}, {}, {IsByte: true, Byte: 200}, {Pins: 1}, {Pins: 1}, {Pins: 1},
	} {
		wantAt(t, l, i, want)
	}
	wantAt(t, l, most, world.Now{Pins: 1})
}

// P16.2: a byte of value 0 is one: IsByte tells it from a cycle without a byte.
func TestP162ByteOfZero(t *testing.T) {
	l := []api.Input{byteAt(2, 0), byteAt(3, 5), byteAt(4, 0)}
	for i, want := range []world.Now{{}, {}, {IsByte: true}, {IsByte: true, Byte: 5}, {IsByte: true}, {}, {}} {
		wantAt(t, l, i, want)
	}
}

// P16.2: what else comes at a byte's cycle, ahead of it and behind it, leaves the byte.
func TestP162ByteAmongLevels(t *testing.T) {
	wantAt(t, []api.Input{pins(4, 1), byteAt(4, 2), mask(4, 3)}, 4, world.Now{Pins: 1, Mask: 3, IsByte: true, Byte: 2})
	wantAt(t, []api.Input{byteAt(4, 2), mask(4, 3)}, 4, world.Now{Mask: 3, IsByte: true, Byte: 2})
	wantAt(t, []api.Input{pins(4, 1), byteAt(4, 2)}, 4, world.Now{Pins: 1, IsByte: true, Byte: 2})
	wantAt(t, []api.Input{byteAt(3, 9), pins(4, 1), mask(4, 3)}, 4, world.Now{Pins: 1, Mask: 3})
}

// P16.2: of no inputs, nil and empty, there is nothing at any cycle.
func TestP162NoInputs(t *testing.T) {
	for _, c := range someCycles(nil) {
		wantAt(t, nil, c, world.Now{})
		wantAt(t, []api.Input{}, c, world.Now{})
		wantUpto(t, nil, c, nil)
		wantUpto(t, []api.Input{}, c, nil)
	}
}

// P16.2: at 0 and below there is nothing, whatever comes later; above MaxCycle levels hold on.
func TestP162NoCycles(t *testing.T) {
	l := []api.Input{pins(1, 3), byteAt(1, 4), mask(1, 5), byteAt(most, 6), mask(most, 7)}
	wantAt(t, l, 1, world.Now{Pins: 3, Mask: 5, IsByte: true, Byte: 4})
	wantAt(t, l, most-1, world.Now{Pins: 3, Mask: 5})
	wantAt(t, l, most, world.Now{Pins: 3, Mask: 7, IsByte: true, Byte: 6})
	for _, c := range noCycles() {
		if c < 1 {
			wantAt(t, l, c, world.Now{})
			wantUpto(t, l, c, nil)
		} else {
			wantAt(t, l, c, world.Now{Pins: 3, Mask: 7})
			wantUpto(t, l, c, l)
		}
	}
}

// P16.2: of a list that is no script there is nothing at any cycle, also ahead of its fault.
func TestP162NoScripts(t *testing.T) {
	for _, l := range noScripts() {
		for _, c := range someCycles(l) {
			wantAt(t, l, c, world.Now{})
		}
	}
}

// P16.2: Upto answers just the inputs by a cycle, also at cycles that are none, and of lists that are no scripts, which keep their order.
func TestP162Upto(t *testing.T) {
	l := example()
	for c, n := range []int{0, 0, 2, 2, 2, 4, 4} {
		wantUpto(t, l, c, l[:n])
	}
	odd := []api.Input{pins(5, 1), {At: -3, Kind: 9, Val: 2}, pins(5, 1), byteAt(2, 3), mask(0, 4), byteAt(most+1, 5)}
	wantUpto(t, odd, -4, nil)
	wantUpto(t, odd, -3, odd[1:2])
	wantUpto(t, odd, -1, odd[1:2])
	wantUpto(t, odd, 0, []api.Input{odd[1], odd[4]})
	wantUpto(t, odd, 4, []api.Input{odd[1], odd[3], odd[4]})
	wantUpto(t, odd, 5, odd[:5])
	wantUpto(t, odd, most, odd[:5])
	wantUpto(t, odd, most+1, odd)
	for _, l := range append(noScripts(), example()) {
		for _, c := range someCycles(l) {
			wantUpto(t, l, c, upto(l, c))
		}
	}
}

// P16.2: what Upto answers is new: to change it, and to put more behind it, changes nothing of what was handed in.
func TestP162UptoIsNew(t *testing.T) {
	for _, c := range []int{2, 4, 5, most} {
		l := example()
		got := world.Upto(l, c)
		got[0], got[1] = mask(9, 9), mask(9, 8)
		_ = append(got, mask(9, 7))
		if !slices.Equal(l, example()) {
			t.Errorf("Upto at %d, changed: %v", c, l)
		}
		kept := world.Upto(l, c)
		l[0] = mask(9, 9)
		if kept[0] != pins(2, 3) {
			t.Errorf("Upto at %d, with what was handed in changed: %v", c, kept)
		}
	}
}

// P16.2: all lists of up to three inputs, right ones and such as may not be, at each cycle beside theirs, as the reckoning has it.
func TestP162ShortLists(t *testing.T) {
	for _, l := range shortLists(someInputs()[4:], 2) {
		for _, c := range someCycles(l) {
			wantAt(t, l, c, there(l, c))
			wantUpto(t, l, c, upto(l, c))
		}
	}
	for _, l := range shortLists(someInputs(), 3) {
		for c := range 5 {
			wantAt(t, l, c, there(l, c))
		}
	}
}

// P16.2: all scripts of the first four cycles, at each of them and the next ones, as the reckoning has it.
func TestP162SmallScripts(t *testing.T) {
	for _, l := range smallScripts(4) {
		for c := range 7 {
			wantAt(t, l, c, there(l, c))
			wantUpto(t, l, c, upto(l, c))
		}
	}
}

// P16.2: what there is at a cycle hangs on nothing that comes later.
func TestP162LaterDoesNotCount(t *testing.T) {
	d := dice(3)
	for range 2000 {
		l := d.script(20, 15)
		for c := 1; c <= 16; c++ {
			wantAt(t, world.Upto(l, c), c, world.At(l, c))
		}
	}
}
