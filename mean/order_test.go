package mean_test

import (
	"slices"
	"testing"

	"plover/api"
	"plover/mean"
)

// book is what is held against a machine from cycle to cycle.
type book struct {
	prios   map[int]int
	entered []int
	ahead   *mean.Machine
	told    int
}

// wantRising fails unless handlers' frames, from below, have rising priorities, and are those that were entered, and not left.
func (b *book) wantRising(t *testing.T, m *mean.Machine) {
	t.Helper()
	var running []int
	for _, f := range m.Frames() {
		if f.Vector >= 0 {
			running = append(running, f.Vector)
		}
	}
	if m.Outcome() == api.Halted {
		return
	}
	if !slices.Equal(running, b.entered) {
		t.Errorf("handlers' frames %v, entered and not left %v", running, b.entered)
	}
	for i, v := range running {
		if i > 0 && b.prios[v] <= b.prios[running[i-1]] {
			t.Errorf("priorities do not rise: %v by %v", running, b.prios)
		}
	}
}

// wantEntry fails unless the handler that was entered might be.
func (b *book) wantEntry(t *testing.T, m *mean.Machine, v int) {
	t.Helper()
	bit := uint8(1 << v)
	if b.ahead.Critical() > 0 || m.Mask()&bit != 0 || b.ahead.Bank().Irq.Mask&bit == 0 || b.prios[v] == 0 {
		t.Errorf("at %d: entered %d, critical %d, masked %b, allowed %b", m.Cycle(), v, b.ahead.Critical(), m.Mask(), b.ahead.Bank().Irq.Mask)
	}
	b.entered = append(b.entered, v)
}

// turn holds a cycle against the book, and answers what was told in it.
func (b *book) turn(t *testing.T, m *mean.Machine) {
	t.Helper()
	all := m.Events()
	now := all[b.told:]
	b.told = len(all)
	if len(now) > 1 {
		t.Errorf("at %d: told %v", m.Cycle(), now)
	}
	gone := b.ahead.Bank().Irq.Pend &^ m.Bank().Irq.Pend
	for _, e := range now {
		if e.At != m.Cycle() {
			t.Errorf("at %d: told %+v", m.Cycle(), e)
		}
		switch e.Kind {
		case api.EvEnter:
			b.wantEntry(t, m, e.A)
			gone &^= 1 << e.A
			if m.Bank().Irq.Pend>>e.A&1 != 0 {
				t.Errorf("at %d: %d is entered, and still requested", m.Cycle(), e.A)
			}
		case api.EvExit:
			if len(b.entered) == 0 || b.entered[len(b.entered)-1] != e.A {
				t.Fatalf("at %d: left %d of %v", m.Cycle(), e.A, b.entered)
			}
			b.entered = b.entered[:len(b.entered)-1]
		case api.EvWrite:
			if e.A == api.IrqClear {
				gone &^= uint8(e.B)
			}
		}
	}
	if gone != 0 {
		t.Errorf("at %d: requests %b are gone", m.Cycle(), gone)
	}
}

// P17.4: in any programs: handlers' priorities rise, entries and exits go together like parentheses, none is entered that may not be, and a request is there till it is taken, or cleared.
func TestP174Order(t *testing.T) {
	entered := 0
	for seed := range 200 {
		n, text, in := made(t, 5000+seed, 400)
		b := book{prios: map[int]int{}}
		for _, f := range n.Prog.Funcs {
			if f.Vector >= 0 {
				b.prios[f.Vector] = f.Prio
			}
		}
		m := machine(t, listed(t, n), in...)
		for m.Outcome() == api.Running && m.Cycle() < 400 {
			b.ahead = m.Copy()
			m.Do()
			b.turn(t, m)
			b.wantRising(t, m)
		}
		entered += len(entries(m))
		if t.Failed() {
			t.Fatalf("seed %d of\n%s", seed, text)
		}
	}
	if entered < 2000 {
		t.Errorf("only %d entries", entered)
	}
}

// P17.4: masks, cycle by cycle any: what waits is taken as soon as it may be, by priority, and none is lost.
func TestP174NoneLost(t *testing.T) {
	d := dice(9)
	for range 60 {
		prios := map[int]int{}
		for v := range 8 {
			prios[v] = 1 + d.below(7)
		}
		bits := 1 + d.below(255)
		var in []api.Input
		for c := 1; c <= 60; c++ {
			in = append(in, masked(c, uint8(d.below(256)|d.below(256))))
		}
		m := machine(t, ofText(t, handlers(prios, 255, bits)), append(in, masked(61, 0))...)
		m.Run(100)
		got := entries(m)
		slices.Sort(got)
		var want []int
		for v := range 8 {
			if bits>>v&1 == 1 {
				want = append(want, v)
			}
		}
		if !slices.Equal(got, want) || m.Bank().Irq.Pend != 0 {
			t.Errorf("requested %v, taken %v", want, got)
		}
	}
}
