package timer_test

import (
	"math"
	"testing"

	"plover/timer"
)

// This is the tests' own reckoning: a timer as three ints that are never cut, tick by tick, with the numbers of the chapter written out.

// plain is a timer in such a way.
type plain struct {
	count, comp, ctl int
}

// reckoned answers what a timer is.
func reckoned(t timer.Timer) plain {
	return plain{int(t.Count), int(t.Comp), int(t.Ctl)}
}

// value answers the timer that it is.
func (p plain) value() timer.Timer {
	return timer.Timer{Count: uint16(p.count), Comp: uint16(p.comp), Ctl: uint16(p.ctl)}
}

// runs tells whether Ctl has the bit 1, and again whether it has the bit 2.
func (p plain) runs() bool  { return p.ctl%2 == 1 }
func (p plain) again() bool { return p.ctl/2%2 == 1 }

// shown answers what a register shows.
func (p plain) shown(which int) int32 {
	switch which {
	case 0:
		return int32(p.count)
	case 1:
		return int32(p.comp)
	case 2:
		return int32(p.ctl)
	}
	return 0
}

// written answers what is there once a register is written.
func (p plain) written(which int, v int32) plain {
	lowest := int((int64(v)%65536 + 65536) % 65536)
	switch which {
	case 0:
		p.count = lowest
	case 1:
		p.comp = lowest
	case 2:
		p.ctl = lowest
	}
	return p
}

// ticked answers what is there one tick later, and whether it asks.
func (p plain) ticked() (plain, bool) {
	if !p.runs() {
		return p, false
	}
	if p.count++; p.count == 65536 {
		p.count = 0
	}
	if p.count != p.comp {
		return p, false
	}
	p.count = 0
	if !p.again() {
		p.ctl--
	}
	return p, true
}

// tickedBy answers what is there n ticks later, gone through one by one, and how many of these ask.
func (p plain) tickedBy(n int) (plain, int) {
	asked := 0
	for ; n > 0; n-- {
		is := false
		if p, is = p.ticked(); is {
			asked++
		}
	}
	return p, asked
}

// first answers by how many ticks the first one asks, gone through one by one; 0, if none of two times 65536 does.
func (p plain) first() int {
	for n := 1; n <= 2*65536; n++ {
		is := false
		if p, is = p.ticked(); is {
			return n
		}
	}
	return 0
}

// leap is what some number of ticks does to each of the timers that run with one Comp and one Ctl, told by their Counts: to which they come, and how often they ask. Behind these stands the timer that has come to rest.
type leap struct {
	to, asks [65536 + 1]int
}

// leapOfOne is what one tick does.
func leapOfOne(comp, ctl int) *leap {
	var l leap
	l.to[65536] = 65536
	for count := range 65536 {
		p, is := plain{count, comp, ctl}.ticked()
		if is {
			l.asks[count] = 1
		}
		if l.to[count] = p.count; !p.runs() {
			l.to[count] = 65536
		}
	}
	return &l
}

// twice is what twice as many ticks do.
func (l *leap) twice() *leap {
	var twice leap
	for i, to := range l.to {
		twice.to[i], twice.asks[i] = l.to[to], l.asks[i]+l.asks[to]
	}
	return &twice
}

// great is a timer that runs, and so many ticks that they can't be gone through; at is the state to which it has come, and asked how often it asks till then.
type great struct {
	start     timer.Timer
	n         int
	at, asked int
}

// leapAll reckons the ticks of all of them, who have one Comp and one Ctl, by the bits of their numbers of ticks.
func leapAll(comp, ctl int, all []great) {
	l := leapOfOne(comp, ctl)
	for bit := range 63 {
		for i := range all {
			if all[i].n>>bit%2 == 1 {
				all[i].asked += l.asks[all[i].at]
				all[i].at = l.to[all[i].at]
			}
		}
		if bit < 62 {
			l = l.twice()
		}
	}
}

// after answers the timer to which it has come.
func (g great) after() timer.Timer {
	if g.at == 65536 {
		return timer.Timer{Comp: g.start.Comp, Ctl: g.start.Ctl - 1}
	}
	return timer.Timer{Count: uint16(g.at), Comp: g.start.Comp, Ctl: g.start.Ctl}
}

// counts are numbers of 16 bits: the ends, the least ones, the greatest ones, and those about each bit.
func counts() []uint16 {
	all := []uint16{0, 5, 6, 7, 100, 1000, 0x5a5a, 0xa5a5, 60000, 65533, 65534, 65535}
	for bit := range 16 {
		all = append(all, 1<<bit-1, 1<<bit, 1<<bit+1)
	}
	return all
}

// controls are Ctls: all those of the two bits that count, each without others, with each one of the others, and with all of them.
func controls() []uint16 {
	var all []uint16
	for low := range uint16(4) {
		all = append(all, low, 0xfffc|low, 0x5a58|low)
		for bit := 2; bit < 16; bit++ {
			all = append(all, 1<<bit|low)
		}
	}
	return all
}

// values are timers: each Count together with each Comp, with some of the Ctls, so that each of these comes often.
func values() []timer.Timer {
	var all []timer.Timer
	ctls := controls()
	for _, count := range counts() {
		for _, comp := range counts() {
			for range 4 {
				all = append(all, timer.Timer{Count: count, Comp: comp, Ctl: ctls[len(all)%len(ctls)]})
			}
		}
	}
	return all
}

// someValues are a few of these.
func someValues() []timer.Timer {
	var all []timer.Timer
	for i, x := range values() {
		if i%97 == 0 {
			all = append(all, x)
		}
	}
	return all
}

// others are numbers of registers that are none of a timer's: below 0, 3 and more, both ends, and such that become one of a timer's where bits are lost.
func others() []int {
	all := []int{math.MinInt, math.MinInt + 1, math.MinInt + 2, -1 << 40, -1 << 32, -1<<32 + 1, -1<<32 + 2, -65536, -65535, -65534, -256, -255, -254, -3, -2, -1, 255, 256, 257, 258, 65535, 65536, 65537, 65538, 1<<31 - 1, 1 << 31, 1<<32 - 1, 1 << 32, 1<<32 + 1, 1<<32 + 2, 1 << 40, math.MaxInt - 2, math.MaxInt - 1, math.MaxInt}
	for which := 3; which < 40; which++ {
		all = append(all, which)
	}
	return all
}

// someNumbers are numbers that are written: of 16 bits, below 0 and above these, both ends, and one bit of each kind.
func someNumbers() []int32 {
	all := []int32{math.MinInt32, math.MinInt32 + 1, math.MinInt32 + 65535, math.MinInt32 + 65536, -65538, -65537, -65536, -65535, -65534, -32769, -32768, -32767, -256, -2, -1, 0, 65535, 65536, 65537, 65539, 131071, 131072, 131075, math.MaxInt32 - 65535, math.MaxInt32 - 1, math.MaxInt32}
	for bit := range 31 {
		all = append(all, 1<<bit, -1<<bit, 1<<bit+0x5a5)
	}
	return all
}

// dice makes numbers that look like chance, and are the same each time.
type dice uint64

// below answers a number from 0 on, below n.
func (d *dice) below(n int) int {
	*d = *d*6364136223846793005 + 1442695040888963407
	return int(uint64(*d) >> 33 % uint64(n))
}

// any answers any timer; its Count and Comp are often near each other, so that they come to meet.
func (d *dice) any() timer.Timer {
	x := timer.Timer{Count: uint16(d.below(65536)), Comp: uint16(d.below(65536)), Ctl: uint16(d.below(65536))}
	switch d.below(4) {
	case 0:
		x.Count = x.Comp + uint16(d.below(9)) - 4
	case 1:
		x.Comp = uint16(d.below(50))
	}
	if d.below(8) > 0 {
		x.Ctl |= 1
	}
	return x
}

func wantPeek(t *testing.T, x timer.Timer, which int, want int32) {
	t.Helper()
	if got := timer.Peek(x, which); got != want {
		t.Fatalf("Peek(%v, %d): %d, want %d", x, which, got, want)
	}
}

func wantWrite(t *testing.T, x timer.Timer, which int, v int32, want timer.Timer) {
	t.Helper()
	if got := timer.Write(x, which, v); got != want {
		t.Fatalf("Write(%v, %d, %d): %v, want %v", x, which, v, got, want)
	}
}

func wantTick(t *testing.T, x, want timer.Timer, wantAsks bool) {
	t.Helper()
	if got, asks := timer.Tick(x); got != want || asks != wantAsks {
		t.Fatalf("Tick(%v): %v, %v, want %v, %v", x, got, asks, want, wantAsks)
	}
}

func wantTicks(t *testing.T, x timer.Timer, n int, want timer.Timer, wantAsked int) {
	t.Helper()
	if got, asked := timer.Ticks(x, n); got != want || asked != wantAsked {
		t.Fatalf("Ticks(%v, %d): %v, %d, want %v, %d", x, n, got, asked, want, wantAsked)
	}
}

func wantNext(t *testing.T, x timer.Timer, want int) {
	t.Helper()
	if got := timer.Next(x); got != want {
		t.Fatalf("Next(%v): %d, want %d", x, got, want)
	}
}

// wantTickReckoned holds Tick against the reckoning.
func wantTickReckoned(t *testing.T, x timer.Timer) {
	t.Helper()
	after, asks := reckoned(x).ticked()
	wantTick(t, x, after.value(), asks)
}

// wantTicksReckoned holds Ticks against the reckoning, which goes through them.
func wantTicksReckoned(t *testing.T, x timer.Timer, n int) {
	t.Helper()
	after, asked := reckoned(x).tickedBy(n)
	wantTicks(t, x, n, after.value(), asked)
}
