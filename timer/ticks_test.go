package timer_test

import (
	"math"
	"testing"
	"time"

	"plover/timer"
)

// P13.3: the chapter's examples of Ticks and Next.
func TestP133Examples(t *testing.T) {
	wantTicks(t, timer.Timer{Comp: 3, Ctl: 3}, 6, timer.Timer{Comp: 3, Ctl: 3}, 2)
	wantTicks(t, timer.Timer{Comp: 3, Ctl: 1}, 9, timer.Timer{Comp: 3}, 1)
	wantNext(t, timer.Timer{Count: 5, Comp: 3, Ctl: 3}, 65534)
}

// P13.3: no ticks leave each timer as it is; numbers below 0 are none, up to the least int.
func TestP133None(t *testing.T) {
	for _, x := range append(values(), timer.Timer{}, timer.Timer{Count: 65535, Ctl: 3}, timer.Timer{Comp: 1, Ctl: 3}) {
		for _, n := range []int{0, -1, -2, -3, -5, -100, -65534, -65535, -65536, -65537, -1 << 31, -1<<32 + 1, -1 << 40, math.MinInt + 65536, math.MinInt + 1, math.MinInt} {
			wantTicks(t, x, n, x, 0)
		}
	}
}

// P13.3: a timer that does not run stays so for any number of ticks, and no tick of it is the first that asks.
func TestP133AtRest(t *testing.T) {
	for _, x := range values() {
		x.Ctl &^= 1
		wantNext(t, x, 0)
		for _, n := range []int{1, 2, 3, 65535, 65536, 65537, 1 << 31, 1 << 32, 1 << 40, math.MaxInt - 1, math.MaxInt} {
			wantTicks(t, x, n, x, 0)
		}
	}
}

// P13.3: the ends of Next, and Comps behind Count, at it, and ahead of it.
func TestP133NextRows(t *testing.T) {
	for _, r := range []struct {
		count, comp uint16
		want        int
	}{
		{0, 1, 1}, {8, 9, 1}, {65534, 65535, 1}, {65535, 0, 1}, {32767, 32768, 1},
		{0, 2, 2}, {65534, 0, 2}, {65535, 1, 2}, {0, 3, 3}, {2, 3, 1}, {5, 10, 5},
		{0, 0, 65536}, {1, 1, 65536}, {3, 3, 65536}, {32768, 32768, 65536}, {65535, 65535, 65536},
		{1, 0, 65535}, {4, 3, 65535}, {5, 3, 65534}, {0, 65535, 65535}, {65535, 65534, 65535}, {1, 65535, 65534},
		{0, 32768, 32768}, {32768, 0, 32768}, {32769, 0, 32767}, {100, 50, 65486},
	} {
		for _, ctl := range []uint16{1, 3, 5, 7, 0xfffd, 0xffff} {
			wantNext(t, timer.Timer{Count: r.count, Comp: r.comp, Ctl: ctl}, r.want)
		}
		for _, ctl := range []uint16{0, 2, 4, 6, 0xfffc, 0xfffe} {
			wantNext(t, timer.Timer{Count: r.count, Comp: r.comp, Ctl: ctl}, 0)
		}
	}
}

// P13.3: Next hangs on Count and Comp, and on the bit 1 of Ctl alone.
func TestP133NextOfEachCtl(t *testing.T) {
	for n := range 65536 {
		want := 0
		if n%2 == 1 {
			want = 65533
		}
		wantNext(t, timer.Timer{Count: 10, Comp: 7, Ctl: uint16(n)}, want)
	}
}

// P13.3: of each Count, for some Comps: from a Comp on, Next is 65536, and one less behind each tick, down to 1, and just the tick then asks.
func TestP133NextOfEachCount(t *testing.T) {
	for _, comp := range counts() {
		for _, ctl := range []uint16{1, 0x5a5b} {
			x := timer.Timer{Count: comp, Comp: comp, Ctl: ctl}
			for want := 65536; want > 0; want-- {
				wantNext(t, x, want)
				after, asks := timer.Tick(x)
				if asks != (want == 1) {
					t.Fatalf("Tick(%v): %v, %d ticks ahead of the one that asks", x, asks, want)
				}
				x = after
			}
		}
	}
}

// P13.3: Next of all kinds of timers, against the ticks gone through one by one.
func TestP133NextReckoned(t *testing.T) {
	for i, x := range values() {
		if i%7 == 0 {
			wantNext(t, x, reckoned(x).first())
		}
	}
	d := dice(2)
	for range 500 {
		x := d.any()
		wantNext(t, x, reckoned(x).first())
	}
}

// P13.3: as many ticks as Next says, one less, and one more: of each Count, for some Comps.
func TestP133AboutNext(t *testing.T) {
	for _, comp := range []uint16{0, 1, 2, 3, 500, 32768, 65534, 65535} {
		for n := range 65536 {
			x := timer.Timer{Count: uint16(n), Comp: comp, Ctl: 0xf7f7}
			next := (int(comp)-n+65535)%65536 + 1
			wantNext(t, x, next)
			early := x
			early.Count = comp - 1
			wantTicks(t, x, next-1, early, 0)
			again, once := x, x
			again.Count = 0
			wantTicks(t, x, next, again, 1)
			more, _ := timer.Tick(again)
			asked := 1
			if comp == 1 {
				asked = 2
			}
			wantTicks(t, x, next+1, more, asked)
			x.Ctl, early.Ctl, once.Count, once.Ctl = 0xf7f5, 0xf7f5, 0, 0xf7f4
			wantTicks(t, x, next-1, early, 0)
			wantTicks(t, x, next, once, 1)
			wantTicks(t, x, next+1, once, 1)
		}
	}
}

// P13.3: a few ticks of all kinds of timers, and of any, against the tests' own reckoning, which goes through them.
func TestP133FewTicks(t *testing.T) {
	for _, x := range values() {
		for _, n := range []int{1, 2, 3, 4, 7, 50} {
			wantTicksReckoned(t, x, n)
		}
	}
	d := dice(3)
	for range 20000 {
		wantTicksReckoned(t, d.any(), d.below(400))
	}
}

// P13.3: more ticks, over some rounds, against the tests' own reckoning, which goes through them.
func TestP133MoreTicks(t *testing.T) {
	for i, x := range values() {
		if i%11 == 0 {
			for _, n := range []int{65534, 65535, 65536, 65537, 200000} {
				wantTicksReckoned(t, x, n)
			}
		}
	}
	d := dice(4)
	for range 300 {
		wantTicksReckoned(t, d.any(), d.below(500000))
	}
}

// P13.3: each number of ticks up to some rounds, of timers with short rounds, and with those that end at 65535 and behind it.
func TestP133EachNumber(t *testing.T) {
	for _, start := range []timer.Timer{
		{Comp: 1, Ctl: 3}, {Comp: 2, Ctl: 3}, {Comp: 3, Ctl: 3}, {Count: 65530, Comp: 7, Ctl: 3}, {Count: 9, Comp: 10, Ctl: 0xfffb},
		{Comp: 100, Ctl: 3}, {Count: 65000, Comp: 0, Ctl: 3}, {Count: 65535, Comp: 65535, Ctl: 3}, {Count: 1, Comp: 1, Ctl: 3},
		{Comp: 3, Ctl: 1}, {Count: 65530, Comp: 7, Ctl: 1}, {Count: 65535, Comp: 0, Ctl: 0xfff9}, {Count: 3, Comp: 3, Ctl: 1},
	} {
		p, asked := reckoned(start), 0
		for n := range 200001 {
			wantTicks(t, start, n, p.value(), asked)
			is := false
			if p, is = p.ticked(); is {
				asked++
			}
		}
	}
}

// greats answers very great numbers of ticks, up to the greatest int, and those about the bits from the 16th on.
func greats(d *dice) []int {
	all := []int{1, 2, 65535, 65536, 65537, math.MaxInt32, math.MaxUint32, math.MaxInt - 65537, math.MaxInt - 65536, math.MaxInt - 65535, math.MaxInt - 2, math.MaxInt - 1, math.MaxInt}
	for bit := 16; bit < 63; bit++ {
		all = append(all, 1<<bit-1, 1<<bit, 1<<bit+1, 1<<bit+d.below(1<<16))
	}
	return all
}

// P13.3: very great numbers of ticks, up to the greatest int, against the tests' own reckoning, which doubles what one tick does.
func TestP133GreatTicks(t *testing.T) {
	d := dice(5)
	for _, comp := range []uint16{0, 1, 2, 3, 10, 255, 1000, 32767, 32768, 65534, 65535} {
		for _, ctl := range []uint16{1, 3, 0xa5a5, 0xa5a7} {
			var all []great
			for _, n := range greats(&d) {
				for _, count := range []uint16{0, 1, comp - 1, comp, comp + 1, 32768, 65535, uint16(d.below(65536))} {
					all = append(all, great{start: timer.Timer{Count: count, Comp: comp, Ctl: ctl}, n: n, at: int(count)})
				}
			}
			leapAll(int(comp), int(ctl), all)
			for _, g := range all {
				wantTicks(t, g.start, g.n, g.after(), g.asked)
			}
		}
	}
}

// P13.3: the greatest int comes to its end, also of the shortest rounds: so it can't have been gone through tick by tick, nor round by round.
func TestP133GreatestEnds(t *testing.T) {
	done := make(chan bool)
	go func() {
		defer close(done)
		timer.Ticks(timer.Timer{Comp: 1, Ctl: 3}, math.MaxInt)
	}()
	select {
	case <-done:
	case <-time.After(2 * time.Minute):
		t.Fatal("Ticks of the greatest int does not come to its end")
	}
}

// P13.3: the greatest int, of each length of rounds.
func TestP133GreatestOfEachComp(t *testing.T) {
	for n := range 65536 {
		comp, length := uint16(n), n
		if n == 0 {
			length = 65536
		}
		wantTicks(t, timer.Timer{Comp: comp, Ctl: 3}, math.MaxInt, timer.Timer{Count: uint16(math.MaxInt % length), Comp: comp, Ctl: 3}, math.MaxInt/length)
		wantTicks(t, timer.Timer{Comp: comp, Ctl: 1}, math.MaxInt, timer.Timer{Comp: comp}, 1)
	}
}
