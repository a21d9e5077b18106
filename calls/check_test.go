package calls_test

import (
	"errors"
	"strings"
	"testing"

	"plover/api"
	"plover/calls"
)

// wantMarked fails unless Check tells ErrRing at the place of the ` in the text, which is taken out; nil, if there is none.
func wantMarked(t *testing.T, text string) {
	t.Helper()
	ahead, behind, is := strings.Cut(text, "`")
	at := -1
	if is {
		at = len(ahead)
	}
	wantCheck(t, text, parsed(t, ahead+behind), at)
}

// P8.3: programs of texts, each with the place of its fault.
func TestP83Texts(t *testing.T) {
	for _, text := range []string{
		"", "var x: w16;", "fn main() { }", "fn main() { f(); } fn f() { }", "fn main() { f(); g(); f(); } fn f() { g(); } fn g() { }", "fn g() { } fn f() { g(); } fn main() { f(); g(); }", "on 0 priority 1 { f(); } fn f() { } fn main() { f(); }",
		"`fn f() { f(); } fn main() { }", "`fn main() { main(); }", "fn main() { } `fn f() { f(); }", "fn main() { f(); } `fn f() { f(); }", "fn main() { f(); } `fn f() { g(); } fn g() { f(); }", "fn main() { g(); } `fn f() { g(); } fn g() { f(); }",
		"`fn a() { b(); } fn b() { c(); } fn c() { a(); } fn main() { }", "fn main() { c(); } `fn a() { b(); } fn b() { c(); } fn c() { a(); }", "fn d() { a(); } fn e() { } `fn a() { b(); e(); } fn b() { a(); } fn main() { }",
		// Of several rings the first function of any counts, whichever is come to first.
		"fn main() { c(); } `fn a() { b(); } fn b() { a(); } fn c() { c(); }", "fn main() { c(); a(); } `fn a() { a(); } fn b() { c(); } fn c() { b(); }", "fn main() { b(); } fn x() { b(); a(); } `fn a() { b(); a(); } fn b() { b(); }",
		// One that calls rings, and is called by others, stands in none.
		"fn main() { x(); b(); } fn x() { c(); } `fn b() { x(); b(); } fn c() { c(); }", "fn x() { c(); } fn b() { x(); x(); } `fn a() { a(); b(); } fn c() { d(); } fn d() { c(); } fn main() { }", "fn x() { y(); } fn y() { a(); } `fn a() { c(); } fn c() { x1(); a(); } fn x1() { }",
		// Handlers call, and nobody calls them.
		"on 0 priority 1 { f(); } `fn f() { f(); } fn main() { }", "on 0 priority 1 { on0(); } on 1 priority 1 { } fn main() { }", "fn f() { } on 3 priority 2 { f(); } on 4 priority 2 { f(); } fn main() { f(); }",
		// Within blocks, and with results.
		"fn main() { } `fn f() { while (1) { if (0) { } else { critical { f(); } } } }", "var x: w16; `fn f(): w16 { x = g(); return x; } fn g(): w16 { if (x) { x = f(); } return 1; } fn main() { }",
		// Of two functions of one name the first one is called.
		"fn f() { } fn f() { f(); } fn main() { }", "`fn f() { f(); } fn f() { } fn main() { }", "fn g() { f(); } fn f() { } fn f() { g(); }", "`fn g() { f(); } fn f() { g(); } fn f() { }",
		// Names of nobody.
		"fn f() { g(); } fn main() { }", "fn f() { F(); ff(); } fn main() { }",
	} {
		wantMarked(t, text)
	}
}

// P8.3: the fault unwraps to its number; it is a new one each time.
func TestP83Fault(t *testing.T) {
	p := parsed(t, "fn main() { } fn f() { f(); }")
	err := calls.Check(p)
	var f *api.Fault
	if !errors.Is(err, api.ErrRing) || !errors.As(err, &f) || f.At != 14 {
		t.Fatalf("%T %+v", err, err)
	}
	f.At = 99
	wantCheck(t, "once more", p, 14)
}

// P8.3: the place is the function's own, whatever it is; a handler's name leads to nobody.
func TestP83Places(t *testing.T) {
	for _, at := range []int{0, 1, 7, 1 << 40} {
		f := fn("f", call("f"))
		f.At = at
		wantCheck(t, "a place", program(fn("g"), f), at)
	}
	wantCheck(t, "handlers", program(on("h", 0, call("h")), on("i", 3, call("h"), call("i"))), -1)
	wantCheck(t, "a handler of a function's name", program(on("f", 0, call("f")), fn("f", call("g")), fn("g")), -1)
	f := fn("f", call("g"))
	f.At = 5
	wantCheck(t, "a ring beside a handler of its name", program(on("f", 0, call("f")), f, fn("g", call("f"))), 5)
}
