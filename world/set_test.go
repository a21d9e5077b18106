package world_test

import (
	"slices"
	"testing"

	"plover/api"
	"plover/world"
)

// P16.2: an input is put ahead of all, between, and behind all, at its place.
func TestP162SetPlaces(t *testing.T) {
	l := example()
	put := func(place int, x api.Input) []api.Input {
		return slices.Insert(slices.Clone(l), place, x)
	}
	for _, row := range []struct {
		x     api.Input
		place int
	}{
		{pins(1, 9), 0}, {byteAt(1, 9), 0}, {mask(1, 0), 0},
		{mask(2, 9), 2}, {pins(3, 9), 2}, {byteAt(4, 9), 2}, {mask(4, 0), 2},
		{byteAt(5, 66), 3},
		{pins(6, 9), 4}, {byteAt(6, 0), 4}, {mask(7, 9), 4}, {pins(most, 9), 4}, {mask(most, 9), 4},
	} {
		wantSet(t, l, row.x, put(row.place, row.x), api.OK)
	}
}

// P16.2: an input of the same At and Kind is replaced, also by one of the same Val, and no other one is.
func TestP162SetReplaces(t *testing.T) {
	for i, x := range example() {
		for _, v := range []uint8{0, x.Val, 255} {
			want := example()
			want[i].Val = v
			wantSet(t, example(), api.Input{At: x.At, Kind: x.Kind, Val: v}, want, api.OK)
		}
	}
}

// P16.2: into no inputs at all, nil and empty, any input is put, at the ends too.
func TestP162SetFirst(t *testing.T) {
	for _, l := range [][]api.Input{nil, {}, example()[:0]} {
		for kind := range 3 {
			for _, at := range []int{1, 2, most - 1, most} {
				x := api.Input{At: at, Kind: kind, Val: uint8(at)}
				wantSet(t, l, x, []api.Input{x}, api.OK)
			}
		}
	}
}

// P16.2: an x that alone is none is refused, its At ahead of its Kind; where it would stand does not count.
func TestP162SetOfNone(t *testing.T) {
	for _, l := range [][]api.Input{nil, {}, example(), {pins(most, 1)}} {
		for _, at := range noCycles() {
			for _, kind := range append(noKinds(), 0, 1, 2) {
				wantSet(t, l, api.Input{At: at, Kind: kind, Val: 1}, nil, api.ErrArg)
			}
		}
		for _, kind := range noKinds() {
			for _, at := range []int{1, 2, 3, 5, 6, most} {
				wantSet(t, l, api.Input{At: at, Kind: kind, Val: 1}, nil, api.ErrKind)
			}
		}
	}
}

// P16.2: an l that is no script is refused by its own error, whatever x is: also if x is none, or would stand in the place of what is wrong.
func TestP162SetIntoNone(t *testing.T) {
	odd := []api.Input{pins(1, 1), byteAt(2, 2), mask(9, 1), {At: 0, Kind: 0}, {At: 0, Kind: 3}, {At: 2, Kind: 3}, {At: most + 1, Kind: 1}}
	for _, l := range noScripts() {
		_, err := checked(l)
		for _, x := range append(odd, l...) {
			wantSet(t, l, x, nil, err)
		}
	}
	wantSet(t, []api.Input{{At: 1, Kind: 3}}, pins(0, 1), nil, api.ErrKind)
	wantSet(t, []api.Input{pins(2, 1), pins(1, 1)}, pins(0, 1), nil, api.ErrOrder)
	wantSet(t, []api.Input{pins(0, 1)}, api.Input{At: 1, Kind: 3}, nil, api.ErrArg)
}

// P16.2: what Set answers is new: to change it, and to put more behind it, changes nothing of what was handed in, nor the other way round.
func TestP162SetIsNew(t *testing.T) {
	for _, x := range []api.Input{pins(1, 9), byteAt(5, 9), mask(8, 9), pins(2, 9), mask(5, 9)} {
		room := append(example(), mask(20, 20))
		l := room[:4]
		got, _ := world.Set(l, x)
		want := slices.Clone(got)
		for i := range got {
			got[i] = pins(33, 33)
		}
		_ = append(got, pins(34, 34))
		if !slices.Equal(room, append(example(), mask(20, 20))) {
			t.Errorf("Set of %v, changed: %v", x, room)
		}
		got, _ = world.Set(l, x)
		for i := range l {
			l[i] = pins(35, 35)
		}
		if !slices.Equal(got, want) {
			t.Errorf("Set of %v, with what was handed in changed: %v, want %v", x, got, want)
		}
	}
}

// P16.2: all lists of up to two inputs, with each input that there is, as the reckoning has it.
func TestP162SetShortLists(t *testing.T) {
	for _, l := range shortLists(someInputs(), 2) {
		for _, x := range someInputs() {
			x.Val++
			want, err := set(l, x)
			wantSet(t, l, x, want, err)
		}
	}
}

// P16.2: scripts that grow by any inputs, in any order, are those of the reckoning, and are scripts.
func TestP162SetAny(t *testing.T) {
	d := dice(4)
	for range 200 {
		var l []api.Input
		for range 60 {
			x := d.input([]int{4, 20, most}[d.below(3)])
			want, err := set(l, x)
			wantSet(t, l, x, want, err)
			l, _ = world.Set(l, x)
			wantCheck(t, l, -1, api.OK)
		}
	}
}

// another tells whether what there is at a cycle may be another one behind a Set: at or behind x, ahead of the next input of that kind; of a byte at x alone.
func another(l []api.Input, x api.Input, c int) bool {
	if c < x.At || x.Kind == 1 && c != x.At {
		return false
	}
	for _, y := range l {
		if y.Kind == x.Kind && y.At > x.At && y.At <= c {
			return false
		}
	}
	return true
}

// setNow answers what there is, with what x brings in its place.
func setNow(now world.Now, x api.Input) world.Now {
	switch x.Kind {
	case 0:
		now.Pins = x.Val
	case 1:
		now.IsByte, now.Byte = true, x.Val
	default:
		now.Mask = x.Val
	}
	return now
}

// wantSetThere holds a script with x against the one without: at each cycle up to one, what was set is there, and nothing else is another one.
func wantSetThere(t *testing.T, l []api.Input, x api.Input, upTo int) {
	t.Helper()
	after, err := world.Set(l, x)
	if err != api.OK {
		t.Fatalf("Set(%v, %v): %d", l, x, err)
	}
	wantCheck(t, after, -1, api.OK)
	for c := range upTo + 1 {
		want := world.At(l, c)
		if another(l, x, c) {
			want = setNow(want, x)
		}
		wantAt(t, after, c, want)
	}
}

// P16.4: what is set is there, and nothing else is another one, but the levels up to the next input of that Kind: into all scripts of the first three cycles, of each kind, at each cycle and behind.
func TestP164SetIntoSmallScripts(t *testing.T) {
	for i, l := range smallScripts(3) {
		for at := 1; at <= 4; at++ {
			for kind := range 3 {
				wantSetThere(t, l, api.Input{At: at, Kind: kind, Val: uint8(i % 3 * 99)}, 6)
			}
		}
	}
}

// P16.4: the same into any scripts.
func TestP164SetIntoAny(t *testing.T) {
	d := dice(5)
	for range 3000 {
		wantSetThere(t, d.script(25, 30), d.input(32), 40)
	}
}

// P16.4: what is set at the last cycle is there from there on.
func TestP164SetAtTheEnd(t *testing.T) {
	l := example()
	for kind := range 3 {
		x := api.Input{At: most, Kind: kind, Val: 44}
		after, _ := world.Set(l, x)
		wantAt(t, after, most-1, world.Now{Pins: 1, Mask: 8})
		wantAt(t, after, most, setNow(world.Now{Pins: 1, Mask: 8}, x))
		if kind != 1 {
			wantAt(t, after, most+1, setNow(world.Now{Pins: 1, Mask: 8}, x))
		}
	}
}

// P16.4: what is set twice is there once, and of several inputs at several places it does not count which one was set first.
func TestP164SetInAnyOrder(t *testing.T) {
	d := dice(6)
	for range 3000 {
		l, x, y := d.script(10, 8), d.input(9), d.input(9)
		once, _ := world.Set(l, x)
		wantSet(t, once, x, once, api.OK)
		if x.At == y.At && x.Kind == y.Kind {
			continue
		}
		other, _ := world.Set(l, y)
		both, _ := world.Set(once, y)
		wantSet(t, other, x, both, api.OK)
	}
}
