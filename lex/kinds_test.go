package lex

import (
	"slices"
	"strings"
	"sync"
	"testing"
)

// wantedKind is what a byte is, by the chapter's words.
func wantedKind(b byte) uint8 {
	var kind uint8
	for each, bytes := range map[uint8]string{
		Between:  " \t\n",
		Letter:   "abcdefghijklmnopqrstuvwxyzABCDEFGHIJKLMNOPQRSTUVWXYZ_",
		Digit:    "0123456789",
		HexDigit: "0123456789abcdefABCDEF",
		Mark:     "{}()[];:,.=<>+-*/%&^|~!",
	} {
		if strings.IndexByte(bytes, b) >= 0 {
			kind |= each
		}
	}
	return kind
}

// P2.1: the function and the table say the same of each byte, and what the chapter says.
func TestKindsOfAllBytes(t *testing.T) {
	for b := range 256 {
		want := wantedKind(byte(b))
		if byFunction, byTable := kindOf(byte(b)), Kind(byte(b)); byFunction != want || byTable != want {
			t.Errorf("%q is %b by the function, %b by the table, want %b", byte(b), byFunction, byTable, want)
		}
	}
}

// forgetKinds makes the table one that was not made yet.
func forgetKinds() {
	kindsMade, kinds = sync.Once{}, [128]uint8{}
}

// Lex and Line come to the table on no way: they neither make it nor read it.
func TestLexWithoutTheTable(t *testing.T) {
	text := "on 3 { x1 = 0x1F <= _; } // end\n"
	want, err := Lex(text)
	if err != nil || Line(text, 99) != 2 {
		t.Fatal(want, err)
	}
	same := func(what string) {
		if got, err := Lex(text); err != nil || !slices.Equal(got, want) || Line(text, 99) != 2 {
			t.Errorf("%s: %v, %v, want %v", what, got, err, want)
		}
		if _, err := Lex(text + "$"); err == nil {
			t.Errorf("%s: $ is a token", what)
		}
	}
	forgetKinds()
	same("without the table")
	if kinds != [128]uint8{} {
		t.Error("Lex made the table")
	}
	Kind('a')
	kinds = [128]uint8{}
	same("beside a table of nothing")
	forgetKinds()
}

// The table is made once, when it is asked first, also if many ask at once.
func TestKindsAreMadeOnce(t *testing.T) {
	forgetKinds()
	var all sync.WaitGroup
	for range 8 {
		all.Go(func() {
			if Kind('f') != Letter|HexDigit || Kind(255) != 0 {
				t.Error("f is no letter")
			}
		})
	}
	all.Wait()
	kinds['f'] = Mark
	if Kind('f') != Mark {
		t.Error("the table was made once more")
	}
	forgetKinds()
}
