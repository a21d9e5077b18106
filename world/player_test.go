package world_test

import (
	"testing"

	"plover/api"
	"plover/world"
)

// P16.3: a player of the chapter's script, from ahead of the first cycle on.
func TestP163Example(t *testing.T) {
	p := world.New(example())
	if p.Cycle() != 0 {
		t.Errorf("Cycle of a new player: %d", p.Cycle())
	}
	for i, want := range []world.Now{{}, {Pins: 3, IsByte: true, Byte: 65}, {Pins: 3}, {Pins: 3}, {Pins: 1, Mask: 8}, {Pins: 1, Mask: 8}} {
		if got := p.Next(); got != want || p.Cycle() != i+1 {
			t.Errorf("the %d. Next: %v, Cycle %d, want %v", i+1, got, p.Cycle(), want)
		}
	}
}

// P16.3: a player of no inputs, nil and empty, is one: its cycles are counted, with nothing at each of them.
func TestP163NoInputs(t *testing.T) {
	for _, l := range [][]api.Input{nil, {}, example()[:0]} {
		p := world.New(l)
		if p == nil {
			t.Fatalf("New(%v) is nil", l)
		}
		wantPlayed(t, p, nil, 100)
		if p.Cycle() != 100 {
			t.Errorf("Cycle: %d", p.Cycle())
		}
	}
}

// P16.3: there is no player of a list that is no script.
func TestP163NoScripts(t *testing.T) {
	for _, l := range noScripts() {
		if p := world.New(l); p != nil {
			t.Errorf("New(%v) is a player", l)
		}
	}
	for _, l := range shortLists(someInputs(), 2) {
		if is := world.New(l) != nil; is != right(l) {
			t.Errorf("New(%v) is a player: %v", l, is)
		}
	}
}

// P16.3: of a player that is none, nil and zero, there are zeros, however often it is asked.
func TestP163None(t *testing.T) {
	for i, p := range []*world.Player{nil, {}, new(world.Player), world.New([]api.Input{pins(0, 1)})} {
		for range 5 {
			if now, c := p.Next(), p.Cycle(); now != (world.Now{}) || c != 0 {
				t.Errorf("the %d.: Next %v, Cycle %d", i, now, c)
			}
		}
	}
}

// P16.3: several inputs at one cycle, inputs at the first cycle, and cycles far behind the last input.
func TestP163Ends(t *testing.T) {
	for _, l := range [][]api.Input{
		{pins(1, 200)}, {byteAt(1, 0)}, {mask(1, 200)},
		{pins(1, 1), byteAt(1, 2), mask(1, 3)},
		{pins(1, 1), byteAt(1, 2), mask(1, 3), pins(2, 4), byteAt(2, 5), mask(2, 6), pins(3, 0), byteAt(3, 0), mask(3, 0)},
		{byteAt(3, 7), mask(3, 255), byteAt(50, 8)},
		{mask(7, 1), byteAt(499, 9), pins(500, 2)},
	} {
		wantPlayed(t, world.New(l), l, 3000)
	}
}

// P16.3: an input that comes late is not missed, nor is it there too soon.
func TestP163Late(t *testing.T) {
	const late = 200000
	p := world.New([]api.Input{byteAt(late, 7), mask(late, 9), pins(most, 1)})
	for c := 1; c < late; c++ {
		if now := p.Next(); now != (world.Now{}) {
			t.Fatalf("at the cycle %d: %v", c, now)
		}
	}
	for i, want := range []world.Now{{Mask: 9, IsByte: true, Byte: 7}, {Mask: 9}} {
		if now := p.Next(); now != want || p.Cycle() != late+i {
			t.Errorf("at the cycle %d: %v, want %v", p.Cycle(), now, want)
		}
	}
}

// P16.3: Cycle changes nothing, however often it is asked.
func TestP163CycleAsked(t *testing.T) {
	p := world.New(example())
	for c := range 20 {
		for range c {
			if p.Cycle() != c {
				t.Fatalf("Cycle: %d, want %d", p.Cycle(), c)
			}
		}
		if got, want := p.Next(), there(example(), c+1); got != want {
			t.Errorf("Next at the cycle %d: %v, want %v", c+1, got, want)
		}
	}
}

// P16.3: several players of one script, each at a cycle of its own, are each as if it was alone.
func TestP163Several(t *testing.T) {
	d := dice(7)
	for range 200 {
		l := d.script(20, 25)
		players := []*world.Player{world.New(l), world.New(l), world.New(l)}
		for range 120 {
			p := players[d.below(3)]
			wantPlayed(t, p, l, p.Cycle()+1+d.below(3))
		}
	}
}

// P16.3: what was handed in is not kept: a player goes on as it would, whatever its owner does to it.
func TestP163HandedInChanges(t *testing.T) {
	l := example()
	p, q := world.New(l), world.New(l)
	q.Next()
	q.Next()
	for i := range l {
		l[i] = pins(1+i, 99)
	}
	wantPlayed(t, p, example(), 9)
	wantPlayed(t, q, example(), 9)
}

// P16.3: a copy of a player goes on by itself, and the player without it.
func TestP163Copied(t *testing.T) {
	d := dice(8)
	for range 200 {
		l := d.script(20, 25)
		p := world.New(l)
		wantPlayed(t, p, l, d.below(25))
		copied := *p
		wantPlayed(t, &copied, l, copied.Cycle()+d.below(25))
		wantPlayed(t, p, l, 30)
		wantPlayed(t, &copied, l, 30)
	}
}

// wantNextIsAt holds a player's n-th Next against At(l, n), up to one.
func wantNextIsAt(t *testing.T, l []api.Input, upTo int) {
	t.Helper()
	p := world.New(l)
	for n := 1; n <= upTo; n++ {
		if now := p.Next(); now != world.At(l, n) {
			t.Errorf("%v: the %d. Next is %v, At %v", l, n, now, world.At(l, n))
		}
	}
}

// P16.4: a player's n-th Next is At(l, n): of all scripts of the first four cycles, and of any.
func TestP164NextIsAt(t *testing.T) {
	for _, l := range smallScripts(4) {
		wantNextIsAt(t, l, 6)
	}
	d := dice(9)
	for range 500 {
		l := d.script(60, 80)
		wantNextIsAt(t, l, 90)
		wantPlayed(t, world.New(l), l, 90)
	}
}
