package parse_test

import (
	"fmt"
	"slices"
	"strings"
	"testing"

	"plover/api"
	"plover/lex"
	"plover/parse"
)

// nest is what a nesting begins with, the last token of which begins it, and what stands behind it.
type nest struct {
	begin string // up to that token
	token string
	end   string
}

// blockNests are the statements that have blocks.
func blockNests() []nest {
	return []nest{
		{"if (x) ", "{", "}"},
		{"if (x) ", "{", "} else { }"},
		{"if (x) { } else ", "{", "}"},
		{"while (x) ", "{", "}"},
		{"critical ", "{", "}"},
	}
}

// valueNests are what stands within an expression.
func valueNests() []nest {
	return []nest{
		{"", "-", ""}, {"", "~", ""}, {"", "!", ""},
		{"", "(", ")"},
		{"w16 ", "(", ")"}, {"w32", "(", ")"},
		{"a", "[", "]"}, {"a ", "[ ", "] "},
	}
}

// nested writes nests within each other, with a statement or a value in the middle, and tells where the last one begins.
func nested(blocks, values []nest) (text string, last int) {
	text = "fn f() { "
	for _, n := range blocks {
		last = len(text) + strings.IndexByte(n.begin+n.token, '{') // of if and else both blocks are as deep
		text += n.begin + n.token
	}
	if len(values) > 0 {
		text += " y = "
	}
	for _, n := range values {
		last = len(text + n.begin)
		text += n.begin + n.token
	}
	if len(values) > 0 {
		text += "1"
	}
	for i := range values {
		text += values[len(values)-1-i].end
	}
	if len(values) > 0 {
		text += ";"
	}
	for i := range blocks {
		text += blocks[len(blocks)-1-i].end
	}
	return text + " }", last
}

// P3.1: each kind of nesting, twelve deep, and one more.
func TestP31Nests(t *testing.T) {
	for _, n := range blockNests() {
		for deep := 1; deep <= api.MaxNest+3; deep++ {
			wantNested(t, slices.Repeat([]nest{n}, deep), nil)
		}
	}
	for _, n := range valueNests() {
		for deep := 1; deep <= api.MaxNest+3; deep++ {
			wantNested(t, nil, slices.Repeat([]nest{n}, deep))
		}
	}
}

// wantNested fails unless the nests may be there, or are refused at the first one that is too deep.
func wantNested(t *testing.T, blocks, values []nest) {
	t.Helper()
	text, _ := nested(blocks, values)
	most := api.MaxNest
	if len(blocks)+len(values) <= most {
		parsed(t, text)
		return
	}
	firstBlocks := blocks[:min(len(blocks), most+1)]
	_, at := nested(firstBlocks, values[:min(len(values), most+1-len(firstBlocks))])
	wantFault(t, text, api.ErrNest, at)
}

// P3.1: nestings of any kinds within each other.
func TestP31MixedNests(t *testing.T) {
	d := dice(5)
	for range 3000 {
		var blocks, values []nest
		for range d.below(api.MaxNest + 2) {
			blocks = append(blocks, blockNests()[d.below(len(blockNests()))])
		}
		for range max(api.MaxNest-1-len(blocks)+d.below(4), 0) {
			values = append(values, valueNests()[d.below(len(valueNests()))])
		}
		wantNested(t, blocks, values)
	}
}

// P3.1: the brackets of an assignment nest, too; other parentheses, brackets and braces do not.
func TestP31WhatNests(t *testing.T) {
	ahead := "fn f() { " + strings.Repeat("critical { ", api.MaxNest)
	behind := strings.Repeat("}", api.MaxNest) + " }"
	less := strings.Repeat("while (1) { ", api.MaxNest-1)
	parsed(t, "fn f() { "+less+"a[1] = 2; a[b] = b;"+strings.Repeat("}", api.MaxNest))
	parsed(t, "fn f() { "+less+"x = a[1]; x = -1; x = (1); x = w16(1) + w32(1) + -x; a[1] = -1; x(-1, (1)); if (-x) { } else { }"+strings.Repeat("}", api.MaxNest))
	for _, s := range []string{"x = 1;", "f();", "f(1, 2);", "x = f(1);", "x.y = x.y;", "in x = gpio.in;", "out gpio.out = x;", "sleep;", "halt;", "return;", "return 1 + 2;", "var x: w16 = 1;", ""} {
		parsed(t, ahead+s+behind)
	}
	for _, s := range []string{
		"a`[1] = 2;", "x = `-1;", "x = a`[1];", "x = `(1);", "x = w16`(1);", "x = 1 + w32`(1);", "f(`~1);", "f(1, `!1);", "x = f(1, a`[0]);", "x.y = `(1);",
		"if (x) `{ }", "while (x) `{ }", "critical `{ }", "if (`(x)) { }", "while (`!x) { }", "out gpio.out = `-1;", "return `-1;", "var x: w16 = `(1);",
		"a`[(1)] = 2;", "x = `((1));", "x = `--1;", "x = 1 * 2 + `-3 * -4;",
	} {
		wantMarked(t, ahead+s+behind, api.ErrNest)
	}
	for _, s := range []string{"if (x) `x = 1;", "while (x) `}", "critical `;", "x = w16 `;", "x = f `x;", "a `; b[1] = 2;", "if (x) `-1", "x = `;", "x = `[1];"} {
		wantMarked(t, ahead+s+behind, api.ErrToken)
	}
	wantMarked(t, "fn f() {"+less+"if (x) { } else { critical `{ } } "+behind, api.ErrNest)
	wantMarked(t, "fn f() {"+less+"if (x) { critical `{ } } else { } "+behind, api.ErrNest)
	wantMarked(t, "fn f() {"+less+"a[`-1] = 2;", api.ErrNest)
	wantMarked(t, "fn f() {"+less+"a[1] = -`-2;", api.ErrNest)
}

// P3.1: a nesting ends where it ends: what stands behind it is as deep as what stood ahead.
func TestP31NestsEnd(t *testing.T) {
	deep := strings.Repeat("critical { ", api.MaxNest) + strings.Repeat("}", api.MaxNest)
	values := strings.Repeat("-", api.MaxNest) + "1 + " + strings.Repeat("(", api.MaxNest) + "1" + strings.Repeat(")", api.MaxNest)
	values += " * " + strings.Repeat("a[", api.MaxNest) + "1" + strings.Repeat("]", api.MaxNest) + " | " + strings.Repeat("w16(", api.MaxNest) + "1" + strings.Repeat(")", api.MaxNest)
	index := strings.Repeat("a[", api.MaxNest) + "1" + strings.Repeat("]", api.MaxNest)
	text := "{ " + deep + "x = " + values + "; " + index + " = " + values + "; f(" + values + ", " + values + "); if (" + values + ") " + "{ } else { }" + deep + " }"
	parsed(t, "fn f() "+text+" on 1 priority 1 "+text+" fn g() "+text)
	wantMarked(t, "fn f() "+text+" fn g() { "+strings.Repeat("critical { ", api.MaxNest)+"critical `{", api.ErrNest)
}

// several writes texts with the numbers from 0 on in place of #.
func several(text string, n int) string {
	var all strings.Builder
	for i := range n {
		all.WriteString(strings.ReplaceAll(text, "#", fmt.Sprint(i)))
	}
	return all.String()
}

// P3.1: so many fields, parameters, structs, globals, functions and handlers may be there, and no more.
func TestP31Many(t *testing.T) {
	for n := 1; n <= 16; n++ {
		if p := parsed(t, "struct s { "+several("f#: w16; ", n)+"}"); len(p.Structs[0].Fields) != n {
			t.Errorf("%d fields: %s", n, told(p))
		}
		if p := parsed(t, several("struct s# { f: w32; } ", n)); len(p.Structs) != n {
			t.Errorf("%d structs: %s", n, told(p))
		}
		if p := parsed(t, several("fn f#() { } ", n-1)+"on 1 priority 1 { }"); len(p.Funcs) != n {
			t.Errorf("%d functions: %s", n, told(p))
		}
		if p := parsed(t, several("on 3 priority 3 { } ", n)); len(p.Funcs) != n {
			t.Errorf("%d handlers: %s", n, told(p))
		}
	}
	if p := parsed(t, several("var v#: w16; ", 50)+several("var v#: w32[2]; ", 25)+several("var v#: s; ", 25)); len(p.Globals) != 100 {
		t.Errorf("%d globals", len(p.Globals))
	}
	for n := range api.MaxParams + 1 {
		params := strings.TrimSuffix(several("p#: w16, ", n), ", ")
		if p := parsed(t, "fn f("+params+") { }"); len(p.Funcs[0].Params) != n {
			t.Errorf("%d parameters: %s", n, told(p))
		}
	}
	parsed(t, several("fn f#(a: w16, b: w16, c: w16, d: w32, e: w32, f: w32) { } ", 16)+several("struct s# { "+strings.Repeat("a: w16; ", 16)+"} ", 16)+several("var v#: w16; ", 100))
}

// P3.1: one more is refused at its name, or at fn or on, whatever stands behind.
func TestP31TooMany(t *testing.T) {
	fields := "struct s { " + several("f#: w16; ", 16)
	structs := several("struct s# { f: w32; } ", 16)
	globals := several("var v#: w16; ", 99) + "var a: w16[7]; "
	params := "fn f(" + several("p#: w32, ", 6)
	funcs := several("fn f#() { } ", 15) + "on 1 priority 1 { } "
	for _, behind := range []string{"", " ", " : w16; }", " }", " ;", " { f: w16; }", " 8"} {
		wantMarked(t, fields+"`g"+behind, api.ErrMany)
		wantMarked(t, structs+"struct `g"+behind, api.ErrMany)
		wantMarked(t, globals+"var `g"+behind, api.ErrMany)
		wantMarked(t, params+"`g"+behind, api.ErrMany)
		wantMarked(t, funcs+"`fn"+behind, api.ErrMany)
		wantMarked(t, funcs+"`on"+behind, api.ErrMany)
	}
	wantMarked(t, fields+"`f0: w16; f1: w16; }", api.ErrMany)
	wantMarked(t, structs+"var x: w16; struct `s0 { f: w16; } struct s0 { f: w16; }", api.ErrMany)
	wantMarked(t, globals+"struct s { f: w16; } fn f() { var x: w16 = 1; } var `v0: w16;", api.ErrMany)
	wantMarked(t, several("on 0 priority 1 { }", 16)+"var x: w16; `on 9 priority 9 { }", api.ErrMany)
	wantMarked(t, several("on 0 priority 1 { }", 16)+"`fn () { }", api.ErrMany)
	for _, other := range append(allWords(), "1", "(", ":", "") {
		wantMarked(t, structs+"struct `"+other, api.ErrToken)
		wantMarked(t, globals+"var `"+other, api.ErrToken)
		wantMarked(t, params+"`"+other, api.ErrToken)
		wantMarked(t, fields+"`"+other, api.ErrToken)
	}
	parsed(t, "fn f() { "+several("var v#: w16 = 1; ", 200)+"f("+several("#, ", 50)+"1); }")
}

// P3.1: numbers of elements, of vectors, of priorities.
func TestP31Ranges(t *testing.T) {
	for _, c := range []struct {
		ahead, behind string
		least, most   int
		get           func(p api.Prog) int
	}{
		{"var a: w16[", "];", 1, 64, func(p api.Prog) int { return p.Globals[0].Count }},
		{"var b: w32 [", "] ;", 1, 64, func(p api.Prog) int { return p.Globals[0].Count }},
		{"on ", " priority 1 { }", 0, 7, func(p api.Prog) int { return p.Funcs[0].Vector }},
		{"on 0 priority ", " { }", 1, 7, func(p api.Prog) int { return p.Funcs[0].Prio }},
	} {
		for _, n := range []int64{0, 1, 2, 6, 7, 8, 9, 10, 63, 64, 65, 66, 100, 128, 256, 512, 32768, 65535, 65536, 65537, 1 << 31, 1<<31 + 1, 1<<32 - 1} {
			for _, digits := range []string{fmt.Sprint(n), fmt.Sprintf("0x%x", n), fmt.Sprintf("000%d", n)} {
				if n < int64(c.least) || n > int64(c.most) {
					wantMarked(t, c.ahead+"`"+digits+c.behind, api.ErrRange)
					wantMarked(t, c.ahead+"`"+digits, api.ErrRange)
					wantMarked(t, c.ahead+"`"+digits+" on }", api.ErrRange)
				} else if p := parsed(t, c.ahead+digits+c.behind); c.get(p) != int(n) {
					t.Errorf("%s%s: %d, want %d", c.ahead, digits, c.get(p), n)
				}
			}
		}
		for _, other := range []string{"-1", "x", "]", "(1)", "w16", "priority"} {
			wantMarked(t, c.ahead+"`"+other+c.behind, api.ErrToken)
		}
	}
	parsed(t, "fn f() { x = a[0]; x = a[65]; a[4294967295] = 4294967295; }")
}

// P3.1: a word of the language or of a device is no name.
func TestP31WordsAreNoNames(t *testing.T) {
	for _, word := range allWords() {
		for _, text := range []string{
			"struct `@ { f: w16; }", "struct s { `@: w16; }", "struct s { f: w16; `@: w16; }", "var `@: w16;", "var `@: s;",
			"fn `@() { }", "fn f(`@: w16) { }", "fn f(a: w16, `@: w16) { }",
			"fn f() { var `@: w16 = 1; }", "fn f() { in `@ = gpio.in; }", "fn f() { x.`@ = 1; }", "fn f() { x = y.`@; }", "fn f() { x = (1 + y.`@); }",
		} {
			wantMarked(t, strings.ReplaceAll(text, "@", word), api.ErrToken)
		}
		if word != "w16" && word != "w32" {
			for _, text := range []string{"var x: `@;", "fn f() { x = `@; }", "fn f() { x = `@(1); }", "fn f() { x = a[`@]; }", "fn f() { x = 1 + `@; }", "fn f() { g(1, `@); }", "fn f() { return `@; }", "fn f(a: `@) { }", "fn f(): `@ { }", "struct s { f: `@; }", "fn f() { var x: `@ = 1; }"} {
				wantMarked(t, strings.ReplaceAll(text, "@", word), api.ErrToken)
			}
		}
		for _, near := range []string{"_" + word, word + "_", word + "1", strings.ToUpper(word), "x" + word} {
			if slices.Contains(allWords(), near) {
				continue
			}
			text := strings.ReplaceAll("struct @ { @: w16; } var @: @; fn @(@: w16) { var @: w16 = @; @ = @[@] + @.@; @ = @(@); in @ = gpio.in; @[@] = @; @.@ = @; @(@); }", "@", near)
			if p := parsed(t, text); p.Funcs[0].Name != near || p.Globals[0].Struct != near {
				t.Errorf("%q: %s", text, told(p))
			}
		}
	}
}

// P3.1: NAME = NAME ( is always a call, and no expression goes on behind it; calls stand nowhere else.
func TestP31Calls(t *testing.T) {
	for _, text := range []string{
		"x = g(1) `+ 2;", "x = g() `[1];", "x = g(1) `.y;", "x = 1 + g`(1);", "x = (g`(1));", "x = (g)`(1);", "x = -g`(1);", "x = a[1]`(2);", "x = a.b`(2);", "a[1] = g`(2);", "a.b = g`(2);",
		"a[g`(1)] = 2;", "g(h`(1));", "x = g(h`(1));", "if (g`(1)) { }", "while (g`()) { }", "return g`(1);", "var x: w16 = g`(1);", "out gpio.out = g`(1);", "in x = `g(1);",
		"g(1,`);", "g(`,1);", "g(1 `2);", "g(1`;", "g(1)`", "x = g(`;", "x = g(1)`)", "x = `= y;", "x `y;", "x`;", "x = y`", "x = `;", "g(1) `= 2;", "x.y`(1);", "x.y`.z = 1;", "x[1]`.y = 1;", "x[1]`[2] = 1;", "x[`] = 1;", "x[1] `;",
	} {
		text = "fn f() { " + text
		if strings.HasSuffix(text, "`") {
			wantFault(t, text[:len(text)-1], api.ErrToken, len(text)-1)
			continue
		}
		wantMarked(t, text, api.ErrToken)
	}
}

// faultTexts are texts with one fault each, at the `; a token that goes on is one with which none can.
func faultTexts() map[string]api.Errno {
	return map[string]api.Errno{
		"fn f( `{ }":                   api.ErrToken,
		"`} ":                          api.ErrToken,
		"on `8 priority 1 { }":         api.ErrRange,
		"on 7 priority `0 { }":         api.ErrRange,
		"var a: w16[`65];":             api.ErrRange,
		"fn f() { out `gpio.ctl = 1; ": api.ErrReg,
		"fn f() { in x = `t0.mask ; }": api.ErrReg,
		"fn f() { x = -------------"[:25] + "`-1 ; }":                         api.ErrNest,
		"fn f() { " + strings.Repeat("critical { ", 12) + "a`[1] = 2; }":      api.ErrNest,
		"struct s { " + strings.Repeat("f: w16; ", 16) + "`g: w16; }":         api.ErrMany,
		"fn g(" + strings.Repeat("p: w16, ", 6) + "`q: w16) { } ":             api.ErrMany,
		strings.Repeat("struct s { f: w16; } ", 16) + "struct `t { f: w16; }": api.ErrMany,
		strings.Repeat("var g: s; ", 100) + "var `h: s; ":                     api.ErrMany,
		strings.Repeat("on 7 priority 7 { } ", 16) + "`fn x() { } ":           api.ErrMany,
	}
}

// P3.1: of two faults the first one from left to right is told.
func TestP31TwoFaults(t *testing.T) {
	for first, code := range faultTexts() {
		wantMarked(t, first, code)
		for second := range faultTexts() {
			wantMarked(t, first+" "+strings.Replace(second, "`", "", 1), code)
			wantMarked(t, first+strings.Replace(second, "`", "", 1)[1:], code)
		}
	}
	wantMarked(t, "fn f() { out `gpio.while", api.ErrReg)
	wantMarked(t, "fn f() { out gpio.`; on 9", api.ErrToken)
	wantMarked(t, "on `9 priority 9 { out gpio.ctl", api.ErrRange)
	wantMarked(t, "on 1 priority `9 { out gpio.ctl", api.ErrRange)
	wantMarked(t, "var a: w16[`0 ; fn fn", api.ErrRange)
}

// P3.1: lex's faults are told ahead of all others, wherever they stand.
func TestP31FaultsOfLex(t *testing.T) {
	wrong := map[string]api.Errno{"`$": api.ErrChar, "0x`": api.ErrChar, "`4294967296": api.ErrNumber, "12`ab": api.ErrChar, "`abcdefghijklmnopq": api.ErrLong}
	_, texts := textsOf(t, wholeProgram())
	for piece, code := range wrong {
		for i := range len(texts) + 1 {
			text := strings.Join(texts[:i], " ") + " " + piece + " " + strings.Join(texts[i:], " ")
			at := strings.IndexByte(text, '`')
			wantFault(t, strings.Replace(text, "`", "", 1), code, at)
		}
		for fault := range faultTexts() {
			text := strings.Replace(fault, "`", "", 1) + "\n" + piece + " "
			wantMarked(t, text, code)
			wantMarked(t, piece+"\n"+strings.Replace(fault, "`", "", 1), code)
		}
	}
	wantFault(t, strings.Repeat(" ", api.MaxText+1), api.ErrLong, api.MaxText)
	wantFault(t, "}"+strings.Repeat("$", api.MaxText), api.ErrLong, api.MaxText)
	wantFault(t, strings.Repeat("}", api.MaxText), api.ErrToken, 0)
	parsed(t, "fn f() { }"+strings.Repeat("\n", api.MaxText-10))
	wantFault(t, "fn f() { "+strings.Repeat("\n", api.MaxText-9), api.ErrToken, api.MaxText)
}

// P3.1: an answer is the caller's, and the same each time; its lists share no room.
func TestP31AnswersAreTheCallers(t *testing.T) {
	text := wholeProgram()
	want := told(parsed(t, text))
	p := parsed(t, text)
	for i := range p.Funcs {
		extend(p.Funcs[i].Body)
		_ = append(p.Funcs[i].Params, api.Param{Name: "no"})
	}
	if told(p) != want {
		t.Errorf("to append to lists changed others:\n%s\n%s", told(p), want)
	}
	bare(p)
	for i := range p.Structs {
		p.Structs[i] = api.Struct{}
	}
	if got := told(parsed(t, text)); got != want {
		t.Errorf("once more: %s\nwant %s", got, want)
	}
	_, err := parse.Parse("}")
	err.(*api.Fault).At = 99
	wantFault(t, "}", api.ErrToken, 0)
}

// extend appends to all lists of statements, and leaves them as they are.
func extend(all []api.Stmt) {
	_ = append(all, api.Stmt{Name: "no"})
	for _, s := range all {
		extendValues(s.E)
		extend(s.Body)
		extend(s.Else)
	}
}

func extendValues(all []api.Expr) {
	_ = append(all, api.Expr{Name: "no"})
	for _, e := range all {
		extendValues(e.Args)
	}
}

// P1: whatever stands there, Parse ends, and answers a program, or a fault within the text.
func TestP1AnyTexts(t *testing.T) {
	d := dice(6)
	pieces := append(otherTokens(), " ", "\n", "//", "$", "\x00", "\xff", "0x", "4294967296", "fn f() {", "on 1 priority 1 {", "x = ", "x[1] = 2;", "if (x) {", "critical {", "-", "(", "struct s { f: w16; }", "var a: w16;", "}")
	read := 0
	for range 20000 {
		var text strings.Builder
		for range d.below(40) {
			text.WriteString(d.pick(pieces))
			text.WriteString([]string{" ", "", "\n"}[d.below(3)])
		}
		if d.below(10) == 0 {
			text.Reset()
			for range d.below(9) {
				text.WriteByte(byte(d.below(256)))
			}
		}
		p, err := parse.Parse(text.String())
		if err == nil {
			read++
			continue
		}
		f, is := err.(*api.Fault)
		if !is || f.At < 0 || f.At > text.Len() || told(p) != told(api.Prog{}) {
			t.Fatalf("%q: %v, %.300s", text.String(), err, told(p))
		}
		if _, lexed := lex.Lex(text.String()); lexed != nil && told(lexed) != told(err) {
			t.Fatalf("%q: %v, but lex says %v", text.String(), err, lexed)
		}
	}
	if read == 0 {
		t.Error("no text was a program")
	}
}
