package mean_test

import (
	"fmt"
	"slices"
	"strings"
	"testing"

	"plover/api"
	"plover/bank"
	"plover/mean"
)

// wantWords runs a text's program to its end, and fails unless the words are those then.
func wantWords(t *testing.T, text string, want ...int32) {
	t.Helper()
	m := machine(t, ofText(t, text))
	m.Run(1000)
	if m.Outcome() != api.Halted || !slices.Equal(m.Words(), want) {
		t.Errorf("%s: %s, words %v, want %v", text, ending(m), m.Words(), want)
	}
}

// P17.1: targets of each kind, and nothing else is set.
func TestP171Targets(t *testing.T) {
	globals := "struct S { p: w16; q: w32; } var n: w16; var a: w32[3]; var s: S; var m: w32; "
	for text, want := range map[string][]int32{
		"n = 5;":                          {5, 0, 0, 0, 0, 0, 0},
		"m = 5;":                          {0, 0, 0, 0, 0, 0, 5},
		"s.p = 5;":                        {0, 0, 0, 0, 5, 0, 0},
		"s.q = 5;":                        {0, 0, 0, 0, 0, 5, 0},
		"a[0] = 5;":                       {0, 5, 0, 0, 0, 0, 0},
		"a[2] = 5;":                       {0, 0, 0, 5, 0, 0, 0},
		"n = 1; a[n] = a[n] + 7;":         {1, 0, 7, 0, 0, 0, 0},
		"n = 7; n = 0; m = 1; m = m - 2;": {0, 0, 0, 0, 0, 0, -1},
		"var x: w32 = 3; var y: w32 = x; x = y + 4; m = x; n = w16(y);": {3, 0, 0, 0, 0, 0, 7},
		"n = g(4); a[0] = 1;":              {8, 1, 0, 0, 0, 0, 0},
		"m = h(4); s.q = m;":               {0, 0, 0, 0, 0, 400000, 400000},
		"in m = irq.mask; in n = t0.comp;": {9, 0, 0, 0, 0, 0, 44},
	} {
		wantWords(t, globals+"fn g(x: w16): w16 { return x + x; } fn h(x: w16): w32 { return 100000 * w32(x); } fn main() { out irq.mask = 300; out t0.comp = 9; "+text+" }", want...)
	}
}

// P17.1: a local is its frame's, and starts at 0 in each new frame, but for arguments.
func TestP171Locals(t *testing.T) {
	text := "var r: w32; fn f(x: w16, y: w32): w32 { if (x) { var a: w32 = y; var b: w32 = a + 1; y = b; } else { var c: w32 = 40; y = y + c; } x = 9; return y; } fn main() { var x: w16 = 1; var y: w32 = 70000; r = f(x, y); r = r * 2 + w32(x); x = 0; r = f(x, r); }"
	m := machine(t, ofText(t, text))
	var got []string
	for m.Outcome() == api.Running {
		got = append(got, fmt.Sprint(placesOf(m.Frames()), each(m.Frames()), m.Words()))
		m.Do()
	}
	want := []string{
		"1:0[0 0][0]", "1:1[1 0][0]", "1:2[1 70000][0]",
		"1:2 0:0[1 70000][1 70000 0 0 0][0]", "1:2 0:1[1 70000][1 70000 0 0 0][0]", "1:2 0:2[1 70000][1 70000 70000 0 0][0]",
		"1:2 0:3[1 70000][1 70000 70000 70001 0][0]", "1:2 0:6[1 70000][1 70001 70000 70001 0][0]", "1:2 0:7[1 70000][9 70001 70000 70001 0][0]",
		"1:3[1 70000][70001]", "1:4[1 70000][140003]", "1:5[0 70000][140003]",
		"1:5 0:0[0 70000][0 140003 0 0 0][140003]", "1:5 0:4[0 70000][0 140003 0 0 0][140003]", "1:5 0:5[0 70000][0 140003 0 0 40][140003]",
		"1:5 0:6[0 70000][0 140043 0 0 40][140003]", "1:5 0:7[0 70000][9 140043 0 0 40][140003]", "1:6[0 70000][140043]",
	}
	wantTold(t, text, strings.Join(got, "\n"), strings.Join(want, "\n"))
}

// each writes down the locals of frames.
func each(all []mean.Frame) string {
	text := ""
	for _, f := range all {
		text += fmt.Sprint(f.Locals)
	}
	return text
}

// P17.1: what a call's value goes to: a local, a word, or nowhere; it is 0 without a return, and without a value.
func TestP171CallValues(t *testing.T) {
	functions := "var n: w16; var m: w32; fn f(x: w16): w16 { if (x) { return x + 1; } } fn g() { return; } fn h(x: w32): w32 { m = x; } fn main() { n = 50; m = 60; "
	wantWords(t, functions+"n = f(3); }", 4, 60)
	wantWords(t, functions+"n = f(0); }", 0, 60)
	wantWords(t, functions+"f(3); g(); }", 50, 60)
	wantWords(t, functions+"n = f(32767); }", -32768, 60)
	wantWords(t, functions+"m = h(8); }", 50, 0)
	wantWords(t, functions+"h(8); }", 50, 8)
	wantWords(t, functions+"var x: w16 = 7; x = f(x); n = x; x = f(0); m = w32(x) + 1; }", 8, 1)
	wantWords(t, functions+"var x: w16 = 7; f(x); n = x; }", 7, 60)
}

// P17.1: calls within calls, of units that call themselves in turn, as deep as there are cycles.
func TestP171CallsInTurn(t *testing.T) {
	wantWords(t, "var r: w32; fn fact(x: w32): w32 { var y: w32 = 1; if (x > 1) { y = fact(x - 1); y = x * y; } return y; } fn main() { r = fact(10); }", 3628800)
	wantWords(t, "var r: w16; fn even(x: w16): w16 { var y: w16 = 1; if (x) { y = odd(x - 1); } return y; } fn odd(x: w16): w16 { var y: w16 = 0; if (x) { y = even(x - 1); } return y; } fn main() { r = even(31); r = r * 10; var z: w16 = 0; z = odd(31); r = r + z; }", 1)
	m := machine(t, ofText(t, "var r: w32; fn f(x: w32) { f(x + 1); } fn main() { f(3); }"))
	m.Run(3000)
	frames := m.Frames()
	if m.Outcome() != api.Running || len(frames) != 3001 {
		t.Fatalf("%s, %d frames", ending(m), len(frames))
	}
	for i, f := range frames {
		if i > 0 && (f.Unit != 0 || f.Step != 0 || f.Vector != -1 || !slices.Equal(f.Locals, []int32{int32(i + 2)})) {
			t.Fatalf("frame %d: %+v", i, f)
		}
	}
	// A function that is called, and back, at each depth.
	m = machine(t, ofText(t, "var r: w16; fn g() { r = r + 1; } fn f(x: w16) { g(); if (x) { f(x - 1); } g(); } fn main() { f(300); }"))
	m.Run(100000)
	wantTold(t, "all of them", m.Words(), []int32{602})
	if m.Outcome() != api.Halted {
		t.Errorf("%s", ending(m))
	}
}

// P17.1: the caller stays at its call till the function is back, and goes on behind it.
func TestP171CallerStays(t *testing.T) {
	m := machine(t, ofText(t, "fn g() { } fn f() { g(); return; } fn main() { f(); out gpio.out = 1; f(); }"))
	want := []string{"2:0", "2:0 1:0", "2:0 1:0 0:0", "2:0 1:1", "2:1", "2:2", "2:2 1:0", "2:2 1:0 0:0", "2:2 1:1", "2:3", ""}
	for i, places := range want {
		if got := placesOf(m.Frames()); got != places {
			t.Errorf("behind %d cycles: %s, want %s", i, got, places)
		}
		m.Do()
	}
}

// P17.1: In reads each register as Read does, which takes from the uart; its value is wrapped to the type.
func TestP171In(t *testing.T) {
	names := []string{"gpio.out", "gpio.in", "gpio.edge", "uart.data", "uart.stat", "uart.ctl", "t0.count", "t0.comp", "t0.ctl", "t1.count", "t1.comp", "t1.ctl", "irq.mask", "irq.pend", "irq.clear"}
	for reg, name := range names {
		for _, typ := range []string{"w16", "w32"} {
			for _, where := range []string{"", "var n: " + typ + " = 3; "} {
				text := "var n: " + typ + "; "
				if where != "" {
					text = "var o: " + typ + "; "
				}
				text += "fn main() { " + where + "out t0.comp = 65535; out t1.comp = 40000; out t1.count = 50000; out gpio.out = 200; out gpio.edge = 129; out uart.ctl = 2; out irq.pend = 96; out t0.ctl = 3; in n = " + name + "; in n = " + name + "; }"
				m := machine(t, ofText(t, text), pins(2, 77), byteAt(3, 201), byteAt(4, 202))
				for m.Line() == 1 && len(m.Events()) < 8 {
					m.Do()
				}
				for range 2 {
					b, _, _ := bank.Tick(bank.Pins(m.Bank(), 77))
					v, after := bank.Read(b, reg)
					want := wrapped(map[string]int{"w16": 1, "w32": 2}[typ], int64(v))
					m.Do()
					got := m.Frames()[0].Locals
					if where == "" {
						got = m.Words()
					}
					if m.Bank() != after || int64(got[0]) != want {
						t.Errorf("in %s, of %s: %d, %+v, want %d, %+v", name, typ, got[0], m.Bank(), want, after)
					}
				}
				if m.Do(); len(m.Events()) != 8 || m.Outcome() != api.Halted {
					t.Errorf("in %s: %s", name, story(m))
				}
			}
		}
	}
	wantStory(t, "var n: w16; fn main() { out t0.comp = 40000; in n = t0.comp; out gpio.out = n; }", 9, "1 7=40000, 3 0=-25536; Halted 4")
	wantStory(t, "var n: w32; fn main() { out t0.comp = 40000; in n = t0.comp; out gpio.out = n; }", 9, "1 7=40000, 3 0=40000; Halted 4")
	wantStory(t, "var n: w16; fn main() { in n = uart.data; out gpio.out = n; in n = uart.data; out gpio.out = n; }", 9, "2 0=65, 4 0=66; Halted 5", byteAt(1, 65), byteAt(2, 66))
}

// P17.1: Out writes each register as Write does, and tells so, with the whole value.
func TestP171Out(t *testing.T) {
	for reg := range api.LastReg + 1 {
		for _, v := range []int64{0, 1, 3, 255, 256, 65535, 65536, -1, 70001, -70001} {
			out := step(api.StepOut, 2, number(api.W32, v))
			out.Reg = reg
			request := step(api.StepOut, 1, number(api.W32, 85))
			request.Reg = api.IrqPend
			m := machine(t, mainOf(request, out), pins(2, 9))
			m.Run(1)
			b, _, _ := bank.Tick(bank.Pins(m.Bank(), 9))
			m.Do()
			want := []api.Event{{At: 1, Kind: api.EvWrite, A: api.IrqPend, B: 85}, {At: 2, Kind: api.EvWrite, A: reg, B: int32(v)}}
			if m.Bank() != bank.Write(b, reg, int32(v)) || !slices.Equal(m.Events(), want) {
				t.Errorf("out of %d to %d: %+v, %+v", v, reg, m.Bank(), m.Events())
			}
		}
	}
}

// P17.1: If goes on both ways; any value but 0 counts.
func TestP171If(t *testing.T) {
	for _, v := range []int64{0, 1, -1, 2, 256, 65536, -65536, 1 << 30, -1 << 31} {
		choice := step(api.StepIf, 2, number(api.W32, v))
		choice.Else = 1
		out := func(n int64, next int) api.Step { return step(api.StepOut, next, number(api.W32, n)) }
		m := machine(t, mainOf(choice, out(5, 3), out(7, 3)))
		m.Run(9)
		want := "2 0=7; Halted 3"
		if v == 0 {
			want = "2 0=5; Halted 3"
		}
		if got := story(m); got != want {
			t.Errorf("if (%d): %s, want %s", v, got, want)
		}
	}
	wantStory(t, "fn main() { var i: w16 = 2; while (i) { out gpio.out = i; i = i - 1; } out gpio.out = 9; if (i) { } else { out gpio.out = 8; } if (!i) { out gpio.out = 7; } }", 99,
		"3 0=2, 6 0=1, 9 0=9, 11 0=8, 13 0=7; Halted 14")
}

// P17.1: steps go on where they say, whatever stands behind them.
func TestP171Next(t *testing.T) {
	in, call := step(api.StepIn, 6), step(api.StepCall, 8)
	in.Var, in.Type, call.Func = 0, api.W16, 1
	l := mainOf(
		step(api.StepOut, 4, number(api.W32, 1)), step(api.StepEnter, 7), step(api.StepLeave, 3), in,
		setLocal(1, 1, number(api.W32, 3)), step(api.StepHalt, -1), call, step(api.StepLeave, 2), step(api.StepOut, 5, number(api.W32, 2)),
	)
	l.Units = append(l.Units, api.Unit{Name: "f", Vector: -1, Steps: []api.Step{step(api.StepReturn, -1)}})
	m := machine(t, l)
	for i, want := range []string{"0:0", "0:4", "0:1", "0:7", "0:2", "0:3", "0:6", "0:6 1:0", "0:8", "0:5", ""} {
		if got := placesOf(m.Frames()); got != want {
			t.Errorf("behind %d cycles: %s, want %s", i, got, want)
		}
		m.Do()
	}
	if got := story(m); got != "1 0=1, 9 0=2; Halted 10" {
		t.Errorf("told: %s", got)
	}
}

// P17.1: Halt within anything, and main's end and return, are Halted, and cost a cycle each.
func TestP171Halted(t *testing.T) {
	wantStory(t, "fn main() { }", 9, "Halted 1")
	wantStory(t, "fn main() { return; }", 9, "Halted 1")
	wantStory(t, "fn main() { halt; out gpio.out = 1; }", 9, "Halted 1")
	wantStory(t, "fn f() { critical { halt; } out gpio.out = 1; } fn main() { f(); }", 9, "Halted 3")
	wantStory(t, "fn f() { } fn main() { f(); out gpio.out = 1; return; out gpio.out = 2; }", 9, "3 0=1; Halted 4")
	wantStory(t, "on 5 priority 1 { out gpio.out = 1; halt; } fn main() { out irq.mask = 32; out irq.pend = 32; while (1) { } }", 9, "1 12=32, 2 13=32, 3 in 5, 4 0=1; Halted 5")
}

// P17.1: a sleep stays, whatever comes, till a handler that was taken there is back; then it goes on behind it.
func TestP171Sleep(t *testing.T) {
	wantStory(t, "fn main() { out gpio.edge = 1; out irq.mask = 255; sleep; }", 1000, "1 2=1, 2 12=255; runs 1000", pins(5, 1), byteAt(6, 1), pins(7, 0), masked(8, 3), pins(9, 1))
	text := "on 0 priority 1 { out gpio.out = 1; } fn main() { out gpio.edge = 1; out irq.mask = 1; sleep; out gpio.out = 2; sleep; out gpio.out = 3; }"
	wantStory(t, text, 1000, "1 2=1, 2 12=1, 5 in 0, 6 0=1, 7 back 0, 8 0=2, 12 in 0, 13 0=1, 14 back 0, 15 0=3; Halted 16", pins(5, 1), pins(11, 0), pins(12, 1))
	// Ahead of the sleep, at the first cycle at which it might have been done, the handler is taken asleep, too.
	wantStory(t, text, 100, "1 2=1, 2 12=1, 3 in 0, 4 0=1, 5 back 0, 6 0=2; runs 100", pins(3, 1))
	// A step earlier it is not, so the sleep is begun later, and stays.
	wantStory(t, "on 0 priority 1 { } fn main() { out gpio.edge = 1; out irq.mask = 1; out gpio.out = 4; sleep; halt; }", 100, "1 2=1, 2 12=1, 3 in 0, 4 back 0, 5 0=4; runs 100", pins(3, 1))
}

// P17.1: a handler that is entered while one sleeps wakes that one alone, and not the frames below.
func TestP171SleepWithin(t *testing.T) {
	text := "on 0 priority 1 { out gpio.out = 1; sleep; out gpio.out = 2; } on 1 priority 2 { out gpio.out = 3; } fn main() { out uart.ctl = 1; out gpio.edge = 1; out irq.mask = 3; sleep; out gpio.out = 4; halt; }"
	m := wantStory(t, text, 12, "1 5=1, 2 2=1, 3 12=3, 5 in 0, 6 0=1, 10 in 1, 11 0=3, 12 back 1; runs 12", pins(5, 1), byteAt(10, 1))
	if got := placesOf(m.Frames()); got != "2:3 0:2(on 0 asleep)" {
		t.Errorf("at %s", got)
	}
	m.Run(100)
	if got := story(m); !strings.HasSuffix(got, "12 back 1, 13 0=2, 14 back 0, 15 0=4; Halted 16") {
		t.Errorf("told %s", got)
	}
	// In a function that was called the same.
	wantStory(t, "fn f(x: w16): w16 { sleep; return x * 2; } on 0 priority 1 { } fn main() { var y: w16 = 4; out gpio.edge = 1; out irq.mask = 1; y = f(y); out gpio.out = y; }", 100,
		"2 2=1, 3 12=1, 8 in 0, 9 back 0, 11 0=8; Halted 12", pins(8, 1))
	// A handler's return is as its end.
	wantStory(t, "on 0 priority 1 { return; } fn main() { out gpio.edge = 1; out irq.mask = 1; sleep; }", 100, "1 2=1, 2 12=1, 4 in 0, 5 back 0; Halted 6", pins(4, 1))
}

// P17.1: what a handler's return, and that of a function in it, leave of what is below.
func TestP171HandlerLeavesAll(t *testing.T) {
	text := "var n: w16; fn f(x: w16): w16 { n = n + x; return 99; } on 0 priority 1 { var h: w16 = 5; h = f(h); n = h + n; } fn g(x: w16): w16 { x = x + 1; return x; } fn main() { var y: w16 = 4; out gpio.edge = 1; out irq.mask = 1; y = g(y); y = y + n; out gpio.out = y; }"
	// A handler is six cycles: its two steps, the call, the function's two, its end.
	for at, want := range map[int]string{
		4: "2 2=1, 3 12=1, 4 in 0, 10 back 0, 15 0=109; Halted 16",
		5: "2 2=1, 3 12=1, 5 in 0, 11 back 0, 15 0=109; Halted 16",
		6: "2 2=1, 3 12=1, 6 in 0, 12 back 0, 15 0=109; Halted 16",
		7: "2 2=1, 3 12=1, 7 in 0, 13 back 0, 15 0=109; Halted 16",
		8: "2 2=1, 3 12=1, 8 in 0, 14 back 0, 15 0=5; Halted 16",
	} {
		m := wantStory(t, text, 99, want, pins(at, 1))
		wantTold(t, "n", m.Words(), []int32{104})
	}
}
