package world_test

import (
	"math"
	"slices"
	"testing"

	"plover/api"
	"plover/world"
)

// P16.1, P16.2: the chapter's examples.
func TestP161Examples(t *testing.T) {
	wantAt(t, example(), 1, world.Now{})
	wantAt(t, example(), 2, world.Now{Pins: 3, IsByte: true, Byte: 65})
	wantAt(t, example(), 4, world.Now{Pins: 3})
	wantAt(t, example(), 6, world.Now{Pins: 1, Mask: 8})
	wantCheck(t, example(), -1, api.OK)
	wantCheck(t, append(example(), byteAt(5, 66)), 4, api.ErrOrder)
	wantSet(t, example(), byteAt(5, 66), []api.Input{pins(2, 3), byteAt(2, 65), pins(5, 1), byteAt(5, 66), mask(5, 8)}, api.OK)
	wantUpto(t, example(), 4, []api.Input{pins(2, 3), byteAt(2, 65)})
}

// P16.1: the numbers that the chapter names are api's.
func TestP161Numbers(t *testing.T) {
	for i, pair := range [][2]int{{api.InPins, 0}, {api.InByte, 1}, {api.InMask, 2}, {api.LastIn, 2}, {api.MaxCycle, most}, {int(api.ErrArg), 2}, {int(api.ErrKind), 6}, {int(api.ErrOrder), 28}, {int(api.OK), 0}} {
		if pair[0] != pair[1] {
			t.Errorf("the %d. is %d, want %d", i, pair[0], pair[1])
		}
	}
}

// P16.1: no inputs at all are a script, nil and empty.
func TestP161NoInputs(t *testing.T) {
	wantCheck(t, nil, -1, api.OK)
	wantCheck(t, []api.Input{}, -1, api.OK)
	wantCheck(t, example()[2:2], -1, api.OK)
}

// P16.1: one input, of each kind: its At is from 1 to MaxCycle, whatever its Val is.
func TestP161At(t *testing.T) {
	for kind := range 3 {
		for _, v := range []uint8{0, 1, 128, 255} {
			for _, at := range []int{1, 2, 3, 255, 256, 65536, most / 2, most - 1, most} {
				wantCheck(t, []api.Input{{At: at, Kind: kind, Val: v}}, -1, api.OK)
			}
			for _, at := range noCycles() {
				wantCheck(t, []api.Input{{At: at, Kind: kind, Val: v}}, 0, api.ErrArg)
			}
		}
	}
}

// P16.1: a Kind that is none is told, at each At that may be.
func TestP161Kind(t *testing.T) {
	for _, kind := range noKinds() {
		for _, at := range []int{1, 2, most - 1, most} {
			wantCheck(t, []api.Input{{At: at, Kind: kind, Val: 1}}, 0, api.ErrKind)
			wantCheck(t, []api.Input{pins(1, 1), byteAt(1, 1), {At: at, Kind: kind}}, 2, api.ErrKind)
		}
	}
}

// P16.1: an input stands behind the one ahead: its At above that one's, or the same, and its Kind above; its Val does not count.
func TestP161Order(t *testing.T) {
	for _, c := range []int{2, 7, most - 1} {
		for ahead := range 3 {
			for kind := range 3 {
				for _, v := range []uint8{0, 9, 255} {
					first := api.Input{At: c, Kind: ahead, Val: 9}
					wantCheck(t, []api.Input{first, {At: c + 1, Kind: kind, Val: v}}, -1, api.OK)
					wantCheck(t, []api.Input{first, {At: c - 1, Kind: kind, Val: v}}, 1, api.ErrOrder)
					if kind > ahead {
						wantCheck(t, []api.Input{first, {At: c, Kind: kind, Val: v}}, -1, api.OK)
					} else {
						wantCheck(t, []api.Input{first, {At: c, Kind: kind, Val: v}}, 1, api.ErrOrder)
					}
				}
			}
		}
	}
	wantCheck(t, []api.Input{pins(1, 1), mask(most, 1)}, -1, api.OK)
	wantCheck(t, []api.Input{mask(most, 1), pins(1, 1)}, 1, api.ErrOrder)
}

// P16.1: of several faults in one input it is that of At, then that of Kind, then that it is not behind.
func TestP161FaultsInOne(t *testing.T) {
	for _, row := range []struct {
		x   api.Input
		err api.Errno
	}{
		{api.Input{At: 0, Kind: 3}, api.ErrArg},
		{api.Input{At: 0, Kind: 0}, api.ErrArg},
		{api.Input{At: math.MinInt, Kind: math.MinInt}, api.ErrArg},
		{api.Input{At: most + 1, Kind: 3}, api.ErrArg},
		{api.Input{At: most + 1, Kind: -1}, api.ErrArg},
		{api.Input{At: math.MaxInt, Kind: math.MaxInt}, api.ErrArg},
		{api.Input{At: 4, Kind: 3}, api.ErrKind},
		{api.Input{At: 5, Kind: -1}, api.ErrKind},
		{api.Input{At: 5, Kind: 0}, api.ErrOrder},
		{api.Input{At: 4, Kind: 2}, api.ErrOrder},
	} {
		wantCheck(t, []api.Input{byteAt(3, 1), byteAt(5, 1), row.x, mask(9, 1)}, 2, row.err)
	}
}

// P16.1: of several faults in a list it is that of the first input that has one; what stands ahead, and behind, does not count.
func TestP161FirstFault(t *testing.T) {
	faults := []struct {
		x   api.Input
		err api.Errno
	}{{pins(0, 1), api.ErrArg}, {byteAt(most+1, 1), api.ErrArg}, {api.Input{At: 30, Kind: 3}, api.ErrKind}, {pins(1, 0), api.ErrOrder}}
	for _, first := range faults {
		for _, second := range faults {
			for n := 1; n < 8; n++ {
				var l []api.Input
				for at := range n {
					l = append(l, mask(2+at, uint8(at)))
				}
				wantCheck(t, append(l, first.x, second.x, mask(40, 1)), n, first.err)
			}
		}
	}
}

// P16.1: all lists of up to three inputs, right ones and such as may not be, as the reckoning has it.
func TestP161ShortLists(t *testing.T) {
	for _, l := range shortLists(someInputs(), 3) {
		place, err := checked(l)
		wantCheck(t, l, place, err)
	}
}

// P16.1: any scripts are such, and with one input changed for any other one they are what the reckoning says.
func TestP161Any(t *testing.T) {
	d := dice(1)
	for range 5000 {
		l := d.script(12, 9)
		wantCheck(t, l, -1, api.OK)
		if len(l) == 0 {
			continue
		}
		l[d.below(len(l))] = api.Input{At: d.below(12), Kind: d.below(5) - 1}
		place, err := checked(l)
		wantCheck(t, l, place, err)
	}
}

// P16.1, P16.2, P16.3: what is handed in stays as it is, and so does what lies behind it in the same memory, whatever is asked.
func TestP161HandedInStays(t *testing.T) {
	for _, l := range append(noScripts(), nil, example(), []api.Input{pins(1, 1)}) {
		room := append(slices.Clone(l), pins(-7, 7), mask(-8, 8), byteAt(-9, 9))
		was := slices.Clone(room)
		part := room[:len(l)]
		for _, c := range someCycles(l) {
			world.Check(part)
			world.At(part, c)
			world.Upto(part, c)
			for kind := -1; kind <= 3; kind++ {
				world.Set(part, api.Input{At: c, Kind: kind, Val: 77})
			}
		}
		p := world.New(part)
		for range 10 {
			p.Next()
		}
		if !slices.Equal(room, was) {
			t.Errorf("%v became %v", was, room)
		}
	}
}

// P16.1, P16.2: what is asked twice is answered twice the same.
func TestP161Again(t *testing.T) {
	d := dice(2)
	for range 500 {
		l, x, c := d.script(8, 9), d.input(9), d.below(10)
		first, _ := world.Set(l, x)
		second, _ := world.Set(l, x)
		if !slices.Equal(first, second) || world.At(l, c) != world.At(l, c) || !slices.Equal(world.Upto(l, c), world.Upto(l, c)) {
			t.Errorf("%v, %v, %d: another answer", l, x, c)
		}
	}
}
