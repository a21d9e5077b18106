package mean_test

import (
	"math"
	"reflect"
	"testing"

	"plover/api"
	"plover/bank"
	"plover/mean"
)

// P17.1, P17.2: the chapter's examples.
func TestP171Examples(t *testing.T) {
	wantStory(t, "fn main() { out gpio.out = 3; }", 99, "1 0=3; Halted 2")
	wantStory(t, "on 0 priority 1 { out gpio.out = 7; } fn main() { out gpio.edge = 1; out irq.mask = 1; sleep; halt; }", 99,
		"1 2=1, 2 12=1, 4 in 0, 5 0=7, 6 back 0; Halted 7", pins(4, 1))
	wantStory(t, "fn main() { var x: w16 = 1 / 0; }", 99, "TrapDiv 1")
	wantStory(t, "var h: w16[2]; fn main() { h[2] = 1; }", 99, "TrapIndex 1")
	m := wantStory(t, "var x: w16; fn main() { x = 40000; }", 1, "runs 1")
	wantTold(t, "x", m.Words(), []int32{-25536})
}

// manyLocals is a program whose main stands between a function and a handler, all of them with locals.
const manyLocals = "var a: w32[3]; var n: w16;\nfn f(x: w16, y: w32): w32 { var z: w32 = y; return z; }\nfn main() {\nvar i: w16 = 5; var j: w32 = 6;\nj = f(i, 7); }\non 7 priority 7 { var k: w16 = 1; }"

// P17.1: a machine ahead of its first cycle.
func TestP171AtFirst(t *testing.T) {
	m := machine(t, ofText(t, manyLocals), pins(1, 255), byteAt(1, 65), masked(1, 255))
	want := []mean.Frame{{Unit: 1, Vector: -1, Locals: []int32{0, 0}}}
	if got := m.Frames(); !reflect.DeepEqual(got, want) {
		t.Errorf("frames %+v, want %+v", got, want)
	}
	if m.Cycle() != 0 || m.Outcome() != api.Running || m.Line() != 4 || m.Critical() != 0 || m.Mask() != 0 || m.Bank() != (bank.Bank{}) {
		t.Errorf("at first: %s", whole(m))
	}
	wantTold(t, "words", m.Words(), []int32{0, 0, 0, 0})
	wantTold(t, "events", m.Events(), []api.Event{})
	m = machine(t, ofText(t, "fn main() { }"))
	wantTold(t, "without words", m.Words(), []int32{})
	wantTold(t, "without locals", m.Frames(), []mean.Frame{{Vector: -1}})
	m = machine(t, api.List{Units: make([]api.Unit, 3), Main: 2})
	wantTold(t, "the third unit", m.Frames(), []mean.Frame{{Unit: 2, Vector: -1}})
}

// P17.1: there is no machine without units, or of inputs that are no script.
func TestP171None(t *testing.T) {
	l := ofText(t, manyLocals)
	for _, none := range []api.List{{}, {Units: []api.Unit{}}, {Words: l.Words, Size: l.Size}, {Main: 1, Size: 1}} {
		for _, in := range [][]api.Input{nil, {}, {pins(1, 1)}, {pins(0, 1)}} {
			if m := mean.New(none, in); m != nil {
				t.Errorf("a machine of %+v, %v", none, in)
			}
		}
	}
	wrong := [][]api.Input{
		{pins(0, 1)}, {pins(-1, 1)}, {pins(api.MaxCycle+1, 1)}, {pins(math.MinInt, 1)}, {{At: 1, Kind: 3}}, {{At: 1, Kind: -1}},
		{pins(2, 1), pins(1, 1)}, {pins(2, 1), pins(2, 1)}, {byteAt(2, 1), pins(2, 1)}, {pins(1, 1), pins(2, 2), masked(2, 1), byteAt(2, 1)},
	}
	for _, in := range wrong {
		if m := mean.New(l, in); m != nil {
			t.Errorf("a machine by %v", in)
		}
	}
	for _, in := range [][]api.Input{nil, {}, {pins(api.MaxCycle, 1)}, {pins(2, 1), byteAt(2, 1), masked(2, 1), pins(3, 0)}} {
		if m := mean.New(l, in); m == nil {
			t.Errorf("no machine by %v", in)
		}
	}
}

// P17.2, P17.3: a machine that is none, nil or zero, answers ErrNil, zero and nothing.
func TestP173Nothing(t *testing.T) {
	for about, m := range map[string]*mean.Machine{"nil": nil, "zero": {}, "new": new(mean.Machine)} {
		for range 2 {
			if err := m.Do(); err != api.ErrNil {
				t.Errorf("%s: Do %v", about, err)
			}
			for _, n := range []int{-1, 0, 1, 1000, math.MaxInt, math.MinInt} {
				if got := m.Run(n); got != 0 {
					t.Errorf("%s: Run(%d) did %d", about, n, got)
				}
			}
			if m.Cycle() != 0 || m.Outcome() != 0 || m.Line() != 0 || m.Critical() != 0 || m.Mask() != 0 || m.Bank() != (bank.Bank{}) {
				t.Errorf("%s: not zero", about)
			}
			if len(m.Frames()) != 0 || len(m.Words()) != 0 || len(m.Events()) != 0 || m.Copy() != nil {
				t.Errorf("%s: not nothing", about)
			}
		}
	}
}

// P17.2: Do and Run of a machine that is over, however that came; nothing changes then.
func TestP172Over(t *testing.T) {
	for text, outcome := range map[string]int{
		"fn main() { }":                       api.Halted,
		"fn main() { return; }":               api.Halted,
		"fn main() { halt; }":                 api.Halted,
		"fn f() { halt; } fn main() { f(); }": api.Halted,
		"fn main() { out gpio.out = 1 / 0; }": api.TrapDiv,
		"var a: w16[1]; fn f() { a[a[0] - 1] = 1; } fn main() { out gpio.out = 1; critical { f(); } }": api.TrapIndex,
	} {
		m := machine(t, ofText(t, text), pins(1, 3), pins(9, 4), masked(50, 1))
		for m.Outcome() == api.Running {
			if err := m.Do(); err != api.OK {
				t.Fatalf("%s: Do %v", text, err)
			}
		}
		if m.Outcome() != outcome {
			t.Errorf("%s: outcome %d, want %d", text, m.Outcome(), outcome)
		}
		was := whole(m)
		for _, n := range []int{1, 0, 100, math.MaxInt, -5} {
			if err, did := m.Do(), m.Run(n); err != api.ErrOver || did != 0 {
				t.Errorf("%s: over, Do %v, Run(%d) did %d", text, err, n, did)
			}
		}
		wantTold(t, "once it is over: "+text, whole(m), was)
		if err := m.Copy().Do(); err != api.ErrOver {
			t.Errorf("%s: a copy's Do %v", text, err)
		}
	}
}

// P17.2: Run of 0, of numbers below 0, and of more cycles than there are.
func TestP172Run(t *testing.T) {
	l := ofText(t, "var n: w16; fn main() { while (n < 10) { n = n + 1; } }")
	m := machine(t, l)
	for _, n := range []int{0, -1, -1000, math.MinInt} {
		if did := m.Run(n); did != 0 || m.Cycle() != 0 {
			t.Errorf("Run(%d) did %d, %d cycles", n, did, m.Cycle())
		}
	}
	// 21 times the while, or what it does; and the end.
	if did := m.Run(5); did != 5 || m.Cycle() != 5 {
		t.Errorf("Run(5) did %d, %d cycles", did, m.Cycle())
	}
	if did := m.Run(math.MaxInt); did != 17 || m.Cycle() != 22 || m.Outcome() != api.Halted {
		t.Errorf("the rest: %d, %s", did, ending(m))
	}
	m = machine(t, l)
	if did := m.Run(22); did != 22 || m.Outcome() != api.Halted {
		t.Errorf("just as many: %d, %s", did, ending(m))
	}
	m = machine(t, l)
	if did := m.Run(21); did != 21 || m.Outcome() != api.Running {
		t.Errorf("one fewer: %d, %s", did, ending(m))
	}
	m = machine(t, ofText(t, "fn main() { while (1) { } }"))
	if did := m.Run(1000000); did != 1000000 || m.Cycle() != 1000000 || m.Outcome() != api.Running {
		t.Errorf("a million: %d, %s", did, ending(m))
	}
}

// P17.2, P17.4: cycles, and more cycles, are as all at once, by Do or by Run.
func TestP172Parts(t *testing.T) {
	d := dice(77)
	for seed := range 60 {
		n, text, in := made(t, 1000+seed, 300)
		l := listed(t, n)
		once, parts := machine(t, l, in...), machine(t, l, in...)
		did, sum := once.Run(300), 0
		for sum < 300 {
			var part int
			if d.below(3) == 0 {
				part = parts.Run(min(d.below(50)-1, 300-sum))
			} else if parts.Do() == api.OK {
				part = 1
			}
			sum += part
			if parts.Cycle() != sum {
				t.Fatalf("%d cycles, want %d", parts.Cycle(), sum)
			}
			if parts.Outcome() != api.Running {
				break
			}
		}
		if did != sum {
			t.Errorf("%d cycles at once, %d in parts", did, sum)
		}
		wantTold(t, text, whole(parts), whole(once))
	}
}

// P17.3: the line is that of the innermost frame's step; also where it trapped; 0, if the machine is Halted.
func TestP173Line(t *testing.T) {
	text := "var a: w16[2];\nfn f(x: w16) {\na[x] = 1;\n}\nfn main() {\nvar i: w16 = 1;\nf(i);\ncritical {\n}\nf(i + 1);\n}"
	m := machine(t, ofText(t, text))
	for i, line := range []int{6, 7, 3, 4, 8, 9, 10, 3, 3, 3} {
		if m.Line() != line {
			t.Errorf("behind %d cycles: line %d, want %d", i, m.Line(), line)
		}
		m.Do()
	}
	if ending(m) != "TrapIndex 8" || placesOf(m.Frames()) != "1:4 0:0" {
		t.Errorf("%s at %s", ending(m), placesOf(m.Frames()))
	}
	m = machine(t, ofText(t, "fn main()\n{\nhalt;\n}"))
	if m.Line() != 3 {
		t.Errorf("ahead of a halt: line %d", m.Line())
	}
	m.Do()
	if m.Line() != 0 || len(m.Frames()) != 0 || m.Outcome() != api.Halted {
		t.Errorf("behind it: line %d, frames %v", m.Line(), m.Frames())
	}
	m = machine(t, ofText(t, "fn main()\n{\n}"))
	if m.Line() != 3 || m.Run(2) != 1 || m.Line() != 0 || len(m.Frames()) != 0 {
		t.Errorf("behind main's end: line %d, frames %v", m.Line(), m.Frames())
	}
}

// P17.3: frames of a machine that is Halted, within calls and handlers, too; and of one that is trapped there.
func TestP173Frames(t *testing.T) {
	at := func(stmt string) *mean.Machine {
		m := machine(t, ofText(t, "fn f(x: w32): w32 { var y: w32 = x; "+stmt+" } on 3 priority 2 { var h: w16 = 4; var i: w32 = 0; i = f(9); } "+
			"fn main() { var m: w16 = 3; out t0.comp = 2; out irq.mask = 8; out t0.ctl = 1; while (1) { } }"))
		m.Run(1000)
		return m
	}
	m := at("halt;")
	if m.Outcome() != api.Halted || len(m.Frames()) != 0 || m.Line() != 0 {
		t.Errorf("halted: %s", whole(m))
	}
	// The timer runs from 4 on; at 6 it asks.
	if got := story(m); got != "2 7=2, 3 12=8, 4 8=1, 6 in 3; Halted 11" {
		t.Errorf("halted: %s", got)
	}
	m = at("y = y / (x - 9);")
	want := []mean.Frame{
		{Unit: 2, Step: 4, Vector: -1, Locals: []int32{3}},
		{Unit: 1, Step: 2, Vector: 3, Locals: []int32{4, 0}},
		{Unit: 0, Step: 1, Vector: -1, Locals: []int32{9, 9}},
	}
	if m.Outcome() != api.TrapDiv || !reflect.DeepEqual(m.Frames(), want) || m.Line() != 1 {
		t.Errorf("trapped: %s, want %+v", whole(m), want)
	}
}

// P17.3: the mask is the one that there was at the last cycle.
func TestP173Mask(t *testing.T) {
	m := machine(t, ofText(t, "fn main() { while (1) { } }"), masked(2, 7), pins(3, 9), masked(5, 0), masked(6, 255))
	for i, mask := range []uint8{0, 0, 7, 7, 7, 0, 255, 255, 255} {
		if m.Mask() != mask || m.Cycle() != i {
			t.Errorf("behind %d cycles: %d, want %d", m.Cycle(), m.Mask(), mask)
		}
		m.Do()
	}
	m = machine(t, ofText(t, "fn main() { }"), masked(1, 3), masked(2, 4))
	if m.Mask() != 0 || m.Run(9) != 1 || m.Mask() != 3 {
		t.Errorf("halted at 1: %d", m.Mask())
	}
}

// P17.3: how many critical sections are begun, and not ended.
func TestP173Critical(t *testing.T) {
	m := machine(t, ofText(t, "fn f() { critical { halt; } } fn main() { critical { critical { } critical { f(); } } }"))
	for i, n := range []int{0, 1, 2, 1, 2, 2, 3, 3, 3} {
		if m.Critical() != n {
			t.Errorf("behind %d cycles: %d, want %d", i, m.Critical(), n)
		}
		m.Do()
	}
}
