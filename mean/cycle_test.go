package mean_test

import (
	"fmt"
	"slices"
	"strings"
	"testing"

	"plover/api"
	"plover/mean"
)

// P17.1: in one cycle levels, a byte, and the ticks come ahead of what is to be taken, and that ahead of a step.
func TestP171OneCycle(t *testing.T) {
	handlers := "on 0 priority 1 { } on 1 priority 1 { } on 2 priority 1 { } on 3 priority 1 { } on 4 priority 1 { } "
	loop := "while (1) { } }"
	// What comes at a cycle is taken at it.
	wantStory(t, handlers+"fn main() { out gpio.edge = 1; out irq.mask = 31; "+loop, 6, "1 2=1, 2 12=31, 5 in 0, 6 back 0; runs 6", pins(5, 1))
	wantStory(t, handlers+"fn main() { out uart.ctl = 1; out irq.mask = 31; "+loop, 6, "1 5=1, 2 12=31, 5 in 1, 6 back 1; runs 6", byteAt(5, 1))
	// What is written at a cycle ticks from the next one on: a byte is sent by the fourth tick, a timer asks by its Comp-th.
	wantStory(t, handlers+"fn main() { out uart.ctl = 2; out irq.mask = 31; out uart.data = 7; "+loop, 8, "1 5=2, 2 12=31, 3 3=7, 7 in 2, 8 back 2; runs 8")
	wantStory(t, handlers+"fn main() { out t0.comp = 1; out irq.mask = 31; out t0.ctl = 1; "+loop, 5, "1 7=1, 2 12=31, 3 8=1, 4 in 3, 5 back 3; runs 5")
	wantStory(t, handlers+"fn main() { out t1.comp = 2; out irq.mask = 31; out t1.ctl = 1; "+loop, 6, "1 10=2, 2 12=31, 3 11=1, 5 in 4, 6 back 4; runs 6")
	// All at once, at 9: one is entered at it, the others each behind the one ahead.
	all := "fn main() { out gpio.edge = 1; out uart.ctl = 3; out t0.comp = 3; out t1.comp = 2; out uart.data = 7; out t0.ctl = 1; out t1.ctl = 1; out irq.mask = 31; " + loop
	wantStory(t, handlers+all, 18, "1 2=1, 2 5=3, 3 7=3, 4 10=2, 5 3=7, 6 8=1, 7 11=1, 8 12=31, 9 in 0, 10 back 0, 11 in 1, 12 back 1, 13 in 2, 14 back 2, 15 in 3, 16 back 3, 17 in 4, 18 back 4; runs 18", pins(9, 1), byteAt(9, 1))
	// A level and a byte are there at the step of the same cycle.
	wantStory(t, "var n: w16; fn main() { in n = gpio.in; out gpio.out = n; in n = uart.data; out gpio.out = n; in n = gpio.in; out gpio.out = n; in n = uart.stat; out gpio.out = n; }", 99,
		"2 0=3, 4 0=8, 6 0=4, 8 0=0; Halted 9", pins(1, 3), byteAt(3, 8), pins(5, 4))
	// A timer that was set going at 1 has ticked once at 2.
	wantStory(t, "var n: w16; fn main() { out t0.ctl = 1; in n = t0.count; out gpio.out = n; in n = t0.count; out gpio.out = n; }", 99, "1 8=1, 3 0=1, 5 0=3; Halted 6")
}

// P17.1: a handler that is entered costs the cycle: the step that was to be done is done later.
func TestP171EntryIsACycle(t *testing.T) {
	for at := 3; at <= 6; at++ {
		m := machine(t, ofText(t, "on 0 priority 1 { } fn main() { out gpio.edge = 1; out irq.mask = 1; out gpio.out = 1; out gpio.out = 2; out gpio.out = 3; }"), pins(at, 1))
		m.Run(at - 1)
		ahead := m.Copy()
		m.Do()
		f := append(ahead.Frames(), mean.Frame{Unit: 0, Vector: 0})
		wantTold(t, "frames", m.Frames(), f)
		wantTold(t, "words", m.Words(), ahead.Words())
		wantTold(t, "events", m.Events(), append(ahead.Events(), api.Event{At: at, Kind: api.EvEnter}))
		m.Run(99)
		if m.Cycle() != 8 {
			t.Errorf("at %d: %s", at, story(m))
		}
	}
}

// handlers is a text of handlers by their vectors and priorities, which put out their vectors, and 100 more; and main, which requests those bits, and then goes on.
func handlers(prios map[int]int, mask, bits int) string {
	text := ""
	for v := range 8 {
		if prio, is := prios[v]; is {
			text += fmt.Sprintf("on %d priority %d { out gpio.out = %d; out gpio.out = %d; } ", v, prio, v, 100+v)
		}
	}
	return text + fmt.Sprintf("fn main() { out irq.mask = %d; out irq.pend = %d; while (1) { } }", mask, bits)
}

// entries answers the vectors of the handlers that were entered, one behind the other.
func entries(m *mean.Machine) []int {
	var all []int
	for _, e := range m.Events() {
		if e.Kind == api.EvEnter {
			all = append(all, e.A)
		}
	}
	return all
}

// P17.1: of several that are requested at once the one of the greatest priority is entered, of several of these the least; one behind the other, as none is above the one that runs.
func TestP171ByPriority(t *testing.T) {
	d := dice(3)
	for range 200 {
		prios := map[int]int{}
		for v := range 8 {
			if d.below(4) > 0 {
				prios[v] = 1 + d.below(7)
			}
		}
		mask, bits := d.below(256)|d.below(256), d.below(256)|d.below(256)
		var want []int
		for prio := 7; prio > 0; prio-- {
			for v := range 8 {
				if prios[v] == prio && mask>>v&1 == 1 && bits>>v&1 == 1 {
					want = append(want, v)
				}
			}
		}
		m := machine(t, ofText(t, handlers(prios, mask, bits)))
		m.Run(60)
		wantTold(t, fmt.Sprintf("priorities %v, allowed %b, requested %b", prios, mask, bits), entries(m), want)
		left := bits
		for _, v := range want {
			left -= 1 << v
		}
		if int(m.Bank().Irq.Pend) != left {
			t.Errorf("requests %b, want %b", m.Bank().Irq.Pend, left)
		}
	}
}

// P17.1: one handler within another: just one of a greater priority than that of the innermost frame that is a handler's, also below functions.
func TestP171Within(t *testing.T) {
	for first := 1; first <= 7; first++ {
		for second := 1; second <= 7; second++ {
			text := fmt.Sprintf("fn f() { out gpio.out = 1; } on 0 priority %d { f(); out gpio.out = 2; } on 1 priority %d { out gpio.out = 3; } "+
				"fn main() { out gpio.edge = 1; out uart.ctl = 1; out irq.mask = 3; while (1) { } }", first, second)
			behind := "1 2=1, 2 5=1, 3 12=3, 5 in 0, 7 0=1, 9 0=2, 10 back 0, 11 in 1, 12 0=3, 13 back 1; runs 13"
			for at := 6; at <= 10; at++ {
				want := behind
				if second > first {
					// Entered at once, it is back two cycles later, and all else comes three cycles later.
					want = "1 2=1, 2 5=1, 3 12=3, 5 in 0, "
					shift := func(c int) int {
						if c >= at {
							return c + 3
						}
						return c
					}
					rest := []string{fmt.Sprintf("%03d 0=1", shift(7)), fmt.Sprintf("%03d 0=2", shift(9)), fmt.Sprintf("%03d back 0", shift(10)),
						fmt.Sprintf("%03d in 1", at), fmt.Sprintf("%03d 0=3", at+1), fmt.Sprintf("%03d back 1", at+2)}
					slices.Sort(rest)
					for i := range rest {
						rest[i] = strings.TrimLeft(rest[i], "0")
					}
					want += strings.Join(rest, ", ") + "; runs 13"
				}
				wantStory(t, text, 13, want, pins(5, 1), byteAt(at, 1))
			}
		}
	}
}

// P17.1: all seven priorities, one within another, and back again.
func TestP171AllWithin(t *testing.T) {
	text := ""
	for v := range 7 {
		text += fmt.Sprintf("on %d priority %d { out irq.pend = %d; out gpio.out = %d; } ", v, v+1, 2<<v, v)
	}
	m := machine(t, ofText(t, text+"fn main() { out irq.mask = 255; out irq.pend = 1; while (1) { } }"))
	m.Run(16)
	if got := placesOf(m.Frames()); got != "7:2 0:1(on 0) 1:1(on 1) 2:1(on 2) 3:1(on 3) 4:1(on 4) 5:1(on 5) 6:1(on 6)" {
		t.Errorf("at %s", got)
	}
	m.Run(14)
	var want []string
	for v := 6; v >= 0; v-- {
		want = append(want, fmt.Sprintf("%d 0=%d, %d back %d", 29-2*v, v, 30-2*v, v))
	}
	if got := happened(m.Events()[16:]); got != strings.Join(want, ", ") {
		t.Errorf("back: %s", got)
	}
}

// P17.1: none is entered while critical is above 0; what is requested waits.
func TestP171Critical(t *testing.T) {
	text := "on 0 priority 7 { out gpio.out = 9; } fn f() { critical { out gpio.out = 1; } out gpio.out = 2; } fn main() { out gpio.edge = 1; out irq.mask = 1; critical { out gpio.out = 3; critical { f(); } out gpio.out = 4; } out gpio.out = 5; halt; }"
	// Begun at 3; f's beginning at 7, its end at 9; the inner end at 12, the outer one at 14.
	free := "1 2=1, 2 12=1, 4 0=3, 8 0=1, 10 0=2, 13 0=4, 15 0=5; Halted 16"
	wantStory(t, text, 99, free)
	wantStory(t, text, 99, "1 2=1, 2 12=1, 3 in 0, 4 0=9, 5 back 0, 7 0=3, 11 0=1, 13 0=2, 16 0=4, 18 0=5; Halted 19", pins(3, 1))
	for at := 4; at <= 15; at++ {
		wantStory(t, text, 99, "1 2=1, 2 12=1, 4 0=3, 8 0=1, 10 0=2, 13 0=4, 15 in 0, 16 0=9, 17 back 0, 18 0=5; Halted 19", pins(at, 1))
	}
	wantStory(t, text, 99, "1 2=1, 2 12=1, 4 0=3, 8 0=1, 10 0=2, 13 0=4, 15 0=5, 16 in 0, 17 0=9, 18 back 0; Halted 19", pins(16, 1))
	// A handler's own critical section keeps a greater one out.
	wantStory(t, "on 0 priority 1 { critical { out gpio.out = 1; } out gpio.out = 2; } on 1 priority 2 { out gpio.out = 3; } fn main() { out gpio.edge = 1; out uart.ctl = 1; out irq.mask = 3; while (1) { } }", 14,
		"1 2=1, 2 5=1, 3 12=3, 4 in 0, 6 0=1, 8 in 1, 9 0=3, 10 back 1, 11 0=2, 12 back 0; runs 14", pins(4, 1), byteAt(6, 1))
}

// P17.1: none that is masked is entered, none that is not allowed, none without a handler; a request waits till it may be taken.
func TestP171Waits(t *testing.T) {
	text := "on 0 priority 3 { out gpio.out = 9; } on 1 priority 2 { out gpio.out = 8; } fn main() { out gpio.edge = 1; out uart.ctl = 1; out irq.mask = %s; while (1) { } }"
	all := strings.Replace(text, "%s", "255", 1)
	wantStory(t, all, 12, "1 2=1, 2 5=1, 3 12=255, 4 in 0, 5 0=9, 6 back 0, 7 in 1, 8 0=8, 9 back 1; runs 12", pins(4, 1), byteAt(4, 1))
	wantStory(t, all, 12, "1 2=1, 2 5=1, 3 12=255, 4 in 1, 5 0=8, 6 back 1, 9 in 0, 10 0=9, 11 back 0; runs 12", pins(4, 1), byteAt(4, 1), masked(4, 1), masked(9, 0))
	wantStory(t, all, 12, "1 2=1, 2 5=1, 3 12=255, 4 in 0, 5 0=9, 6 back 0, 10 in 1, 11 0=8, 12 back 1; runs 12", pins(4, 1), byteAt(4, 1), masked(4, 2), masked(10, 253))
	wantStory(t, all, 12, "1 2=1, 2 5=1, 3 12=255; runs 12", masked(3, 3), pins(4, 1), byteAt(4, 1), masked(10, 255))
	wantStory(t, all, 12, "1 2=1, 2 5=1, 3 12=255, 10 in 0, 11 0=9, 12 back 0; runs 12", masked(1, 255), pins(4, 1), byteAt(4, 1), masked(10, 252))
	// A mask lets what was entered go on.
	wantStory(t, all, 8, "1 2=1, 2 5=1, 3 12=255, 4 in 0, 5 0=9, 6 back 0; runs 8", pins(4, 1), byteAt(4, 1), masked(5, 255))
	wantStory(t, strings.Replace(text, "%s", "1", 1), 8, "1 2=1, 2 5=1, 3 12=1, 4 in 0, 5 0=9, 6 back 0; runs 8", pins(4, 1), byteAt(4, 1))
	wantStory(t, strings.Replace(text, "%s", "252", 1), 8, "1 2=1, 2 5=1, 3 12=252; runs 8", pins(4, 1), byteAt(4, 1))
	// Those that have no handler wait for good.
	m := wantStory(t, "on 7 priority 7 { out gpio.out = 1; } fn main() { out irq.mask = 255; out irq.pend = 127; out irq.pend = 128; while (1) { } }", 9, "1 12=255, 2 13=127, 3 13=128, 4 in 7, 5 0=1, 6 back 7; runs 9")
	if pend := m.Bank().Irq.Pend; pend != 127 {
		t.Errorf("requests %b", pend)
	}
	// Allowed later, requested twice, or cleared.
	wantStory(t, "on 0 priority 1 { } fn main() { out gpio.edge = 1; out gpio.out = 1; out irq.mask = 1; while (1) { } }", 9, "1 2=1, 2 0=1, 3 12=1, 4 in 0, 5 back 0; runs 9", pins(2, 1), pins(3, 0), pins(4, 1))
	wantStory(t, "on 0 priority 1 { } fn main() { out gpio.edge = 1; out irq.clear = 1; out irq.mask = 1; while (1) { } }", 9, "1 2=1, 2 14=1, 3 12=1; runs 9", pins(2, 1))
	wantStory(t, "on 0 priority 1 { } fn main() { out gpio.edge = 1; out irq.clear = 254; out irq.mask = 1; while (1) { } }", 9, "1 2=1, 2 14=254, 3 12=1, 4 in 0, 5 back 0; runs 9", pins(2, 1))
}

// P17.1: a request that comes again while its handler runs is taken once that is back.
func TestP171Again(t *testing.T) {
	wantStory(t, "on 0 priority 1 { out gpio.out = 1; } fn main() { out gpio.edge = 1; out irq.mask = 1; while (1) { } }", 12,
		"1 2=1, 2 12=1, 4 in 0, 5 0=1, 6 back 0, 7 in 0, 8 0=1, 9 back 0; runs 12", pins(4, 1), pins(5, 0), pins(6, 1))
	// A timer that asks oftener than its handler is done: main is never gone on with.
	m := wantStory(t, "on 3 priority 1 { } fn main() { out t0.comp = 1; out irq.mask = 8; out t0.ctl = 3; out gpio.out = 1; }", 10,
		"1 7=1, 2 12=8, 3 8=3, 4 in 3, 5 back 3, 6 in 3, 7 back 3, 8 in 3, 9 back 3, 10 in 3; runs 10")
	if got := placesOf(m.Frames()); got != "1:3 0:0(on 3)" {
		t.Errorf("at %s", got)
	}
}
