package world_test

import (
	"math"
	"slices"
	"testing"

	"plover/api"
	"plover/world"
)

// This is the tests' own reckoning: what there is at a cycle is looked for from the list's end down, a list with one more input is made of a table of its places, with the numbers of the chapter written out.

// most is the last cycle at which an input may come.
const most = 1073741824

func pins(at int, v uint8) api.Input {
	return api.Input{At: at, Kind: 0, Val: v}
}

func byteAt(at int, v uint8) api.Input {
	return api.Input{At: at, Kind: 1, Val: v}
}

func mask(at int, v uint8) api.Input {
	return api.Input{At: at, Kind: 2, Val: v}
}

// example is the chapter's script.
func example() []api.Input {
	return []api.Input{pins(2, 3), byteAt(2, 65), pins(5, 1), mask(5, 8)}
}

// wrong answers the number of what should be told of an input, with the one ahead of it, if there is one.
func wrong(l []api.Input, i int) api.Errno {
	x := l[i]
	if x.At <= 0 || x.At > most {
		return 2
	}
	if x.Kind != 0 && x.Kind != 1 && x.Kind != 2 {
		return 6
	}
	if i == 0 {
		return 0
	}
	ahead := l[i-1]
	if ahead.At < x.At || ahead.At == x.At && ahead.Kind < x.Kind {
		return 0
	}
	return 28
}

// checked answers what Check should.
func checked(l []api.Input) (int, api.Errno) {
	for i := range l {
		if err := wrong(l, i); err != 0 {
			return i, err
		}
	}
	return -1, 0
}

// right tells whether a list should be a script.
func right(l []api.Input) bool {
	_, err := checked(l)
	return err == 0
}

// last answers the Val of the last input of a kind by a cycle, and at which one it came; zeros, if none did.
func last(l []api.Input, kind, c int) (v uint8, at int) {
	for i := len(l) - 1; i >= 0; i-- {
		if l[i].Kind == kind && l[i].At <= c {
			return l[i].Val, l[i].At
		}
	}
	return 0, 0
}

// there answers what there should be at a cycle.
func there(l []api.Input, c int) world.Now {
	if c <= 0 || !right(l) {
		return world.Now{}
	}
	var now world.Now
	now.Pins, _ = last(l, 0, c)
	now.Mask, _ = last(l, 2, c)
	if v, at := last(l, 1, c); at == c {
		now.IsByte, now.Byte = true, v
	}
	return now
}

// set answers what Set should.
func set(l []api.Input, x api.Input) ([]api.Input, api.Errno) {
	if _, err := checked(l); err != 0 {
		return nil, err
	}
	if err := wrong([]api.Input{x}, 0); err != 0 {
		return nil, err
	}
	vals := map[int]uint8{}
	for _, y := range l {
		vals[y.At*3+y.Kind] = y.Val
	}
	vals[x.At*3+x.Kind] = x.Val
	var places []int
	for place := range vals {
		places = append(places, place)
	}
	slices.Sort(places)
	var all []api.Input
	for _, place := range places {
		all = append(all, api.Input{At: place / 3, Kind: place % 3, Val: vals[place]})
	}
	return all, 0
}

// upto answers what Upto should.
func upto(l []api.Input, c int) []api.Input {
	return slices.DeleteFunc(slices.Clone(l), func(x api.Input) bool { return x.At > c })
}

// noCycles are numbers at which no input comes: 0 and below, above the last cycle, both ends, and such that become a cycle where bits are lost.
func noCycles() []int {
	return []int{0, -1, -2, -3, -5, -256, -1 << 31, -1<<32 + 2, -1 << 40, -most, -most - 1, math.MinInt + 2, math.MinInt + 1, math.MinInt, most + 1, most + 2, most + 5, 1<<31 - 1, 1 << 31, 1<<32 - 1, 1 << 32, 1<<32 + 1, 1<<32 + 2, 1 << 40, math.MaxInt - 1, math.MaxInt}
}

// noKinds are numbers that are no kind of input: below 0, 3 and above, both ends, and such that become a kind where bits are lost.
func noKinds() []int {
	return []int{-1, -2, -3, -255, -256, -1<<32 + 1, math.MinInt, math.MinInt + 1, 3, 4, 5, 6, 255, 256, 257, 258, 65536, 1 << 31, 1 << 32, 1<<32 + 1, 1<<32 + 2, math.MaxInt - 1, math.MaxInt}
}

// someInputs are inputs of which lists are made: few cycles, and each kind, right ones and such as may not be.
func someInputs() []api.Input {
	var all []api.Input
	for _, at := range []int{0, 1, 2, 3, most, most + 1} {
		for kind := -1; kind <= 3; kind++ {
			all = append(all, api.Input{At: at, Kind: kind, Val: uint8(17*len(all) + 5)})
		}
	}
	return all
}

// shortLists are all lists of up to n of some inputs.
func shortLists(of []api.Input, n int) [][]api.Input {
	all := [][]api.Input{nil}
	for begin := 0; n > 0; n-- {
		end := len(all)
		for _, l := range all[begin:end] {
			for _, x := range of {
				all = append(all, append(slices.Clip(l), x))
			}
		}
		begin = end
	}
	return all
}

// smallScripts are all scripts of inputs at the cycles 1 to n, of each kind, with Vals among which there are 0s.
func smallScripts(n int) [][]api.Input {
	all := [][]api.Input{nil}
	for place := range 3 * n {
		for _, l := range all {
			x := api.Input{At: 1 + place/3, Kind: place % 3, Val: uint8(place * (len(l) % 4) * 37)}
			all = append(all, append(slices.Clip(l), x))
		}
	}
	return all
}

// noScripts are lists that are none: each with one fault or several.
func noScripts() [][]api.Input {
	return [][]api.Input{
		{pins(0, 1)}, {pins(-1, 1)}, {byteAt(most+1, 1)}, {{At: 1, Kind: 3, Val: 9}}, {{At: 1, Kind: -1, Val: 9}},
		{pins(2, 1), pins(2, 1)}, {pins(2, 1), pins(1, 2)}, {mask(2, 1), byteAt(2, 2)}, {byteAt(2, 1), pins(2, 2), mask(3, 1)},
		{pins(1, 1), byteAt(2, 2), mask(3, 4), pins(0, 5)}, {pins(1, 1), byteAt(2, 2), mask(3, 4), {At: 4, Kind: 3}}, {pins(1, 1), byteAt(2, 2), mask(3, 4), mask(3, 4)},
		{pins(3, 7), pins(2, 6), pins(1, 5)}, {{}}, {{At: most + 1, Kind: 7}, pins(0, 0)},
	}
}

// someCycles are cycles at which a list is asked: each At with those beside it, first and last ones, and such as are none.
func someCycles(l []api.Input) []int {
	all := append(noCycles(), 1, 2, 3, 4, 5, 6, 7, 100, most-1, most)
	for _, x := range l {
		all = append(all, x.At-1, x.At, x.At+1)
	}
	slices.Sort(all)
	return slices.Compact(all)
}

// dice makes numbers that look like chance, and are the same each time.
type dice uint64

// below answers a number from 0 on, below n.
func (d *dice) below(n int) int {
	*d = *d*6364136223846793005 + 1442695040888963407
	return int(uint64(*d) >> 33 % uint64(n))
}

// input answers any right input at a cycle up to one.
func (d *dice) input(upTo int) api.Input {
	return api.Input{At: 1 + d.below(upTo), Kind: d.below(3), Val: uint8(d.below(256) * d.below(2))}
}

// script answers any script of up to n inputs, at cycles up to one.
func (d *dice) script(n, upTo int) []api.Input {
	var l []api.Input
	for range d.below(n + 1) {
		l, _ = set(l, d.input(upTo))
	}
	return l
}

func wantCheck(t *testing.T, l []api.Input, want int, wantErr api.Errno) {
	t.Helper()
	if got, err := world.Check(l); got != want || err != wantErr {
		t.Errorf("Check(%v): %d, %d, want %d, %d", l, got, err, want, wantErr)
	}
}

func wantAt(t *testing.T, l []api.Input, c int, want world.Now) {
	t.Helper()
	if got := world.At(l, c); got != want {
		t.Errorf("At(%v, %d): %v, want %v", l, c, got, want)
	}
}

func wantUpto(t *testing.T, l []api.Input, c int, want []api.Input) {
	t.Helper()
	if got := world.Upto(l, c); !slices.Equal(got, want) {
		t.Errorf("Upto(%v, %d): %v, want %v", l, c, got, want)
	}
}

func wantSet(t *testing.T, l []api.Input, x api.Input, want []api.Input, wantErr api.Errno) {
	t.Helper()
	got, err := world.Set(l, x)
	if !slices.Equal(got, want) || err != wantErr || wantErr != 0 && got != nil {
		t.Errorf("Set(%v, %v): %v, %d, want %v, %d", l, x, got, err, want, wantErr)
	}
}

// wantPlayed holds a player's next cycles against what there is by the reckoning, up to one.
func wantPlayed(t *testing.T, p *world.Player, l []api.Input, upTo int) {
	t.Helper()
	for c := p.Cycle() + 1; c <= upTo; c++ {
		if got, want := p.Next(), there(l, c); got != want || p.Cycle() != c {
			t.Fatalf("%v: Next at the cycle %d: %v, Cycle %d, want %v", l, c, got, p.Cycle(), want)
		}
	}
}
