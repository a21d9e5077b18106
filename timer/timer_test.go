package timer_test

import (
	"math"
	"testing"

	"plover/timer"
)

// P13.1: the chapter's example of Write, and its registers by their numbers.
func TestP131Examples(t *testing.T) {
	wantWrite(t, timer.Timer{}, 2, 65537, timer.Timer{Ctl: 1})
	x := timer.Write(timer.Write(timer.Write(timer.Timer{}, 0, 10), 1, 20), 2, 30)
	if want := (timer.Timer{Count: 10, Comp: 20, Ctl: 30}); x != want {
		t.Errorf("the three registers written: %v, want %v", x, want)
	}
	for which, want := range []int32{10, 20, 30} {
		wantPeek(t, x, which, want)
	}
}

// P13.1: each register shows each of its numbers as it is, whatever the others are.
func TestP131PeekOfEach(t *testing.T) {
	for n := range 65536 {
		v := uint16(n)
		for _, other := range []uint16{0, 65535, ^v} {
			wantPeek(t, timer.Timer{Count: v, Comp: other, Ctl: other}, 0, int32(n))
			wantPeek(t, timer.Timer{Count: other, Comp: v, Ctl: other}, 1, int32(n))
			wantPeek(t, timer.Timer{Count: other, Comp: other, Ctl: v}, 2, int32(n))
		}
	}
}

// P13.1: each number of 16 bits is written to each register as it is, and to no other one.
func TestP131WriteOfEach(t *testing.T) {
	for n := range 65536 {
		v := uint16(n)
		x := timer.Timer{Count: ^v, Comp: 1000 ^ v, Ctl: 2000 ^ v}
		wantWrite(t, x, 0, int32(n), timer.Timer{Count: v, Comp: x.Comp, Ctl: x.Ctl})
		wantWrite(t, x, 1, int32(n), timer.Timer{Count: x.Count, Comp: v, Ctl: x.Ctl})
		wantWrite(t, x, 2, int32(n), timer.Timer{Count: x.Count, Comp: x.Comp, Ctl: v})
	}
}

// P13.1: of a value its lowest 16 bits are written, also of one below 0, of 65536 and more, of the least and the greatest.
func TestP131Lowest(t *testing.T) {
	for _, r := range []struct {
		v    int32
		want uint16
	}{
		{0, 0}, {1, 1}, {255, 255}, {256, 256}, {257, 257}, {32767, 32767}, {32768, 32768}, {65534, 65534}, {65535, 65535},
		{65536, 0}, {65537, 1}, {65538, 2}, {65539, 3}, {98304, 32768}, {131071, 65535}, {131072, 0}, {131075, 3}, {1 << 30, 0},
		{-1, 65535}, {-2, 65534}, {-255, 65281}, {-256, 65280}, {-32768, 32768}, {-32769, 32767}, {-65535, 1}, {-65536, 0}, {-65537, 65535}, {-131069, 3},
		{math.MaxInt32, 65535}, {math.MaxInt32 - 1, 65534}, {math.MaxInt32 - 65535, 0}, {math.MinInt32, 0}, {math.MinInt32 + 1, 1}, {math.MinInt32 + 65535, 65535},
	} {
		wantWrite(t, timer.Timer{}, 0, r.v, timer.Timer{Count: r.want})
		wantWrite(t, timer.Timer{}, 1, r.v, timer.Timer{Comp: r.want})
		wantWrite(t, timer.Timer{}, 2, r.v, timer.Timer{Ctl: r.want})
		wantWrite(t, timer.Timer{Count: 0xa5a5, Comp: 0x5a5a, Ctl: 0xffff}, 0, r.v, timer.Timer{Count: r.want, Comp: 0x5a5a, Ctl: 0xffff})
		wantWrite(t, timer.Timer{Count: 0xa5a5, Comp: 0x5a5a, Ctl: 0xffff}, 1, r.v, timer.Timer{Count: 0xa5a5, Comp: r.want, Ctl: 0xffff})
		wantWrite(t, timer.Timer{Count: 0xa5a5, Comp: 0x5a5a, Ctl: 0xffff}, 2, r.v, timer.Timer{Count: 0xa5a5, Comp: 0x5a5a, Ctl: r.want})
	}
}

// P13.1: registers that are none of a timer's show 0, and what is written to them changes nothing.
func TestP131OtherRegisters(t *testing.T) {
	full := timer.Timer{Count: 65535, Comp: 65535, Ctl: 65535}
	for _, which := range others() {
		for _, x := range append(someValues(), full, timer.Timer{}) {
			wantPeek(t, x, which, 0)
			for _, v := range []int32{0, 1, 65535, 65536, -1, math.MinInt32, math.MaxInt32} {
				wantWrite(t, x, which, v, x)
			}
		}
	}
}

// P13.1: Peek and Write of all kinds of timers and values, against the tests' own reckoning; what was written is shown.
func TestP131OfAll(t *testing.T) {
	numbers := someNumbers()
	for i, x := range values() {
		for _, which := range []int{-1, 0, 1, 2, 3} {
			wantPeek(t, x, which, reckoned(x).shown(which))
			for k := range 5 {
				v := numbers[(i*5+k)%len(numbers)]
				want := reckoned(x).written(which, v)
				wantWrite(t, x, which, v, want.value())
				wantPeek(t, timer.Write(x, which, v), which, want.shown(which))
			}
		}
	}
}

// P13.2: the chapter's first example, tick by tick.
func TestP132Examples(t *testing.T) {
	x := timer.Timer{Comp: 3, Ctl: 3}
	for i, want := range []bool{false, false, true, false, false, true} {
		wantTick(t, x, timer.Timer{Count: uint16((i + 1) % 3), Comp: 3, Ctl: 3}, want)
		x, _ = timer.Tick(x)
	}
}

// P13.2: a timer that does not run stays as it is, and asks for nothing, also ahead of its Comp, and with all the other bits of Ctl.
func TestP132AtRest(t *testing.T) {
	for ctl := 0; ctl < 65536; ctl += 2 {
		for _, r := range []struct{ count, comp uint16 }{{0, 0}, {0, 1}, {2, 3}, {3, 3}, {4, 3}, {65535, 0}, {65534, 65535}, {65535, 65535}, {0, 65535}} {
			x := timer.Timer{Count: r.count, Comp: r.comp, Ctl: uint16(ctl)}
			wantTick(t, x, x, false)
		}
	}
}

// P13.2: Count is one more at each tick, 0 behind 65535, and is Comp just at the tick that asks: from each Count on, with Comp behind it, at it, one and more ahead of it.
func TestP132EachCount(t *testing.T) {
	for n := range 65536 {
		count := uint16(n)
		for _, ctl := range []uint16{1, 3, 5, 0xfffd, 0xffff} {
			for _, comp := range []uint16{count - 1, count, count + 2, count + 3, count + 32768} {
				wantTick(t, timer.Timer{Count: count, Comp: comp, Ctl: ctl}, timer.Timer{Count: uint16((n + 1) % 65536), Comp: comp, Ctl: ctl}, false)
			}
			rest := ctl
			if ctl&2 == 0 {
				rest = ctl - 1
			}
			comp := uint16((n + 1) % 65536)
			wantTick(t, timer.Timer{Count: count, Comp: comp, Ctl: ctl}, timer.Timer{Comp: comp, Ctl: rest}, true)
		}
	}
}

// P13.2: the ends of Count and Comp.
func TestP132Ends(t *testing.T) {
	for _, r := range []struct {
		count, comp, want uint16
		asks              bool
	}{
		{0, 0, 1, false}, {65534, 0, 65535, false}, {65535, 0, 0, true},
		{0, 1, 0, true}, {1, 1, 2, false}, {65535, 1, 0, false},
		{0, 65535, 1, false}, {65533, 65535, 65534, false}, {65534, 65535, 0, true}, {65535, 65535, 0, false},
		{2, 3, 0, true}, {3, 3, 4, false}, {4, 3, 5, false}, {1, 3, 2, false},
		{255, 256, 0, true}, {255, 0, 256, false}, {32767, 32768, 0, true}, {32767, 0, 32768, false},
	} {
		wantTick(t, timer.Timer{Count: r.count, Comp: r.comp, Ctl: 3}, timer.Timer{Count: r.want, Comp: r.comp, Ctl: 3}, r.asks)
		rest := uint16(1)
		if r.asks {
			rest = 0
		}
		wantTick(t, timer.Timer{Count: r.count, Comp: r.comp, Ctl: 1}, timer.Timer{Count: r.want, Comp: r.comp, Ctl: rest}, r.asks)
	}
}

// P13.2: with each Ctl: it runs just with the bit 1; the tick that asks takes this bit, if it has not the bit 2; all other bits stay.
func TestP132EachCtl(t *testing.T) {
	for n := range 65536 {
		ctl := uint16(n)
		early, due := timer.Timer{Count: 4, Comp: 9, Ctl: ctl}, timer.Timer{Count: 8, Comp: 9, Ctl: ctl}
		switch n % 4 {
		case 0, 2:
			wantTick(t, early, early, false)
			wantTick(t, due, due, false)
		case 1:
			wantTick(t, early, timer.Timer{Count: 5, Comp: 9, Ctl: ctl}, false)
			wantTick(t, due, timer.Timer{Comp: 9, Ctl: ctl - 1}, true)
		case 3:
			wantTick(t, early, timer.Timer{Count: 5, Comp: 9, Ctl: ctl}, false)
			wantTick(t, due, timer.Timer{Comp: 9, Ctl: ctl}, true)
		}
	}
}

// P13.2: Tick of all kinds of timers, and of any, against the tests' own reckoning.
func TestP132OfAll(t *testing.T) {
	for _, x := range values() {
		wantTickReckoned(t, x)
	}
	for _, count := range counts() {
		for _, comp := range counts() {
			for _, ctl := range controls() {
				wantTickReckoned(t, timer.Timer{Count: count, Comp: comp, Ctl: ctl})
			}
		}
	}
	d := dice(1)
	for range 200000 {
		wantTickReckoned(t, d.any())
	}
}
