package timer_test

import (
	"math"
	"testing"

	"plover/timer"
)

// period answers by how many ticks a timer that runs again asks, each time but the first.
func period(comp uint16) int {
	if comp == 0 {
		return 65536
	}
	return int(comp)
}

// P13.4: a timer that runs again asks, from the first time on, each Comp ticks, each 65536 if that is 0, whatever its Count was: gone through tick by tick.
func TestP134AgainTickByTick(t *testing.T) {
	comps := []uint16{0, 32767, 32768, 65534, 65535}
	for comp := range uint16(300) {
		comps = append(comps, comp)
	}
	for i, comp := range comps {
		x := timer.Timer{Count: uint16(i * 7919), Comp: comp, Ctl: 3}
		due := timer.Next(x)
		for n := 1; n <= 65536+3*period(comp); n++ {
			after, asks := timer.Tick(x)
			if asks != (n == due) {
				t.Fatalf("Tick(%v), the %d. one: %v, where the next one that asks is the %d.", x, n, asks, due)
			}
			if asks {
				due += period(comp)
			}
			x = after
		}
		if due <= 65536+2*period(comp) {
			t.Errorf("Comp %d: the last one was to come at %d", comp, due)
		}
	}
}

// P13.4: of each Comp, the first five times that a timer asks which runs again: one tick ahead it has asked once less.
func TestP134AgainOfEachComp(t *testing.T) {
	for n := range 65536 {
		comp := uint16(n)
		for _, count := range []uint16{0, comp - 1, comp, comp + 1, 40000} {
			x := timer.Timer{Count: count, Comp: comp, Ctl: 0x80f3}
			at, begin := timer.Next(x), timer.Timer{Comp: comp, Ctl: 0x80f3}
			wantNext(t, begin, period(comp))
			for times := 1; times <= 5; times++ {
				early := begin
				early.Count = comp - 1
				wantTicks(t, x, at-1, early, times-1)
				wantTicks(t, x, at, begin, times)
				at += period(comp)
			}
		}
	}
}

// P13.4: a timer that does not run again asks once, and then rests at Count 0, with all else as it was; it asks anew, if it is made to run.
func TestP134Once(t *testing.T) {
	for n := range 65536 {
		comp := uint16(n)
		x, rest := timer.Timer{Count: uint16(n * 31), Comp: comp, Ctl: 0x4321}, timer.Timer{Comp: comp, Ctl: 0x4320}
		due := timer.Next(x)
		for _, more := range []int{0, 1, int(comp), 65535, 65536, 65537, 1 << 40, math.MaxInt - 65536} {
			wantTicks(t, x, due+more, rest, 1)
		}
		wantTick(t, rest, rest, false)
		wantNext(t, rest, 0)
		anew := timer.Write(rest, 2, 0x4321)
		wantNext(t, anew, period(comp))
		wantTicks(t, anew, period(comp), rest, 1)
	}
}

// P13.4: one that does not run again asks once: gone through tick by tick.
func TestP134OnceTickByTick(t *testing.T) {
	for i, comp := range counts() {
		x, asked := timer.Timer{Count: uint16(i * 7919), Comp: comp, Ctl: 0xfffd}, 0
		due := timer.Next(x)
		for n := 1; n <= 3*65536; n++ {
			after, asks := timer.Tick(x)
			if asks != (n == due) {
				t.Fatalf("Tick(%v), the %d. one: %v, where the one that asks is the %d.", x, n, asks, due)
			}
			if asks {
				asked++
			}
			x = after
		}
		if want := (timer.Timer{Comp: comp, Ctl: 0xfffc}); asked != 1 || x != want {
			t.Errorf("Comp %d: it asks %d times, and is %v, want %v", comp, asked, x, want)
		}
	}
}

// wantSum holds ticks of a sum against ticks of the one, and then of the other one.
func wantSum(t *testing.T, x timer.Timer, one, other int) {
	t.Helper()
	between, first := timer.Ticks(x, one)
	want, second := timer.Ticks(between, other)
	wantTicks(t, x, one+other, want, first+second)
}

// P13.4: ticks of a sum, of all kinds of timers, and of any.
func TestP134Sums(t *testing.T) {
	for i, x := range values() {
		next := timer.Next(x)
		for _, one := range []int{0, 1, 2, 3, max(0, next-1), next, next + 1, 65535, 65536, 65537} {
			for _, other := range []int{0, 1, next, 2 * next, 65536, i % 1000, 1 << 31, 1 << 40, math.MaxInt - 70000} {
				wantSum(t, x, one, other)
				wantSum(t, x, other, one)
			}
		}
	}
	d := dice(6)
	for range 200000 {
		x := d.any()
		wantSum(t, x, d.below(1<<uint(d.below(30))), d.below(1<<uint(d.below(30))))
		one := d.below(1<<31) << uint(d.below(32))
		wantSum(t, x, one, math.MaxInt-one)
		wantSum(t, x, math.MaxInt-one, one)
	}
}

// P13.4: many ticks are ticks one by one, and one of them is Tick: any walks, on which registers are written, too.
func TestP134AnyWalks(t *testing.T) {
	d := dice(7)
	for range 2000 {
		x := d.any()
		for range 20 {
			n, one, asked := d.below(300), x, 0
			for range n {
				after, asks := timer.Tick(one)
				alone := 0
				if asks {
					alone = 1
				}
				wantTicks(t, one, 1, after, alone)
				one, asked = after, asked+alone
			}
			wantTicks(t, x, n, one, asked)
			x = one
			if d.below(3) == 0 {
				x = timer.Write(x, d.below(5)-1, int32(d.below(1<<31)>>uint(d.below(31))))
			}
		}
	}
}
