package parse_test

import (
	"slices"
	"strings"
	"testing"

	"plover/api"
	"plover/lex"
	"plover/parse"
)

// grammar is the chapter's; its registers are rougher: a device's word, and any other one.
const grammar = `
program   = { struct | global | function | handler } .
struct    = "struct" NAME "{" field { field } "}" .
field     = NAME ":" type ";" .
type      = "w16" | "w32" .
global    = "var" NAME ":" ( type [ "[" number "]" ] | NAME ) ";" .
function  = "fn" NAME "(" [ param { "," param } ] ")" [ ":" type ] block .
param     = NAME ":" type .
handler   = "on" number "priority" number block .
block     = "{" { statement } "}" .
statement = "var" NAME ":" type "=" e ";"
          | NAME "=" e ";"  |  NAME "[" e "]" "=" e ";"  |  NAME "." NAME "=" e ";"
          | NAME "(" [ e { "," e } ] ")" ";"  |  NAME "=" NAME "(" [ e { "," e } ] ")" ";"
          | "in" NAME "=" register ";"  |  "out" register "=" e ";"
          | "if" "(" e ")" block [ "else" block ]  |  "while" "(" e ")" block
          | "critical" block  |  "sleep" ";"  |  "halt" ";"  |  "return" [ e ] ";" .
register  = ( "gpio" | "uart" | "t0" | "t1" | "irq" ) "." word .
e         = one { operator one } .
one       = ( "-" | "~" | "!" ) one | number | NAME | NAME "[" e "]" | NAME "." NAME
          | ( "w16" | "w32" ) "(" e ")" | "(" e ")" .
operator  = "*" | "/" | "%" | "+" | "-" | "<<" | ">>" | "<" | "<=" | ">" | ">=" | "==" | "!=" | "&" | "^" | "|" .
`

// rules are a grammar's: what each name may be, as rows of names and of tokens (in quotes).
type rules map[string][][]string

// readRules reads a grammar; what stands between brackets or braces becomes a rule of its own.
func readRules(text string) rules {
	r := rules{}
	words := strings.Fields(text)
	for len(words) > 0 {
		left := words[0]
		var end int
		r[left], end = r.choices(words, 2, ".")
		words = words[end+1:]
	}
	return r
}

// choices reads rows with | between, up to the end, and tells where that stands.
func (r rules) choices(words []string, at int, end string) ([][]string, int) {
	all := [][]string{nil}
	last := 0
	add := func(what string) { all[last] = append(all[last], what) }
	for ; words[at] != end; at++ {
		switch words[at] {
		case "|":
			all = append(all, nil)
			last++
		case "(", "[", "{":
			close := map[string]string{"(": ")", "[": "]", "{": "}"}[words[at]]
			inner, behind := r.choices(words, at+1, close)
			own := "within " + string(rune('0'+len(r)))
			r[own] = nil
			if close != ")" {
				r[own] = append(r[own], nil)
			}
			for _, row := range inner {
				if close == "}" {
					row = append([]string{own}, row...)
				}
				r[own] = append(r[own], row)
			}
			add(own)
			at = behind
		default:
			add(words[at])
		}
	}
	return all, at
}

// item is a row of a rule, how far it is read, and at which token it began.
type item struct {
	left      string
	row, read int
	from      int
}

// reader reads tokens by rules alone, all ways at once (Earley's way).
type reader struct {
	rules rules
	sets  [][]item
}

func newReader(r rules, first string) *reader {
	g := &reader{rules: r}
	var items []item
	for row := range r[first] {
		items = append(items, item{first, row, 0, 0})
	}
	g.sets = append(g.sets, g.closed(items, 0))
	return g
}

// next is what an item reads next; nothing at its end.
func (g *reader) next(i item) string {
	row := g.rules[i.left][i.row]
	if i.read == len(row) {
		return ""
	}
	return row[i.read]
}

// closed adds all items that follow from these.
func (g *reader) closed(items []item, place int) []item {
	seen := map[item]bool{}
	var all []item
	add := func(i item) {
		if !seen[i] {
			seen[i] = true
			all = append(all, i)
		}
	}
	for _, i := range items {
		add(i)
	}
	empty := map[string]bool{} // rules that ended where they began
	for n := 0; n < len(all); n++ {
		i := all[n]
		next := g.next(i)
		switch {
		case next == "":
			from := all
			if i.from < place {
				from = g.sets[i.from]
			} else {
				empty[i.left] = true
			}
			for _, outer := range slices.Clone(from) {
				if g.next(outer) == i.left {
					outer.read++
					add(outer)
				}
			}
		case g.rules[next] != nil:
			for row := range g.rules[next] {
				add(item{next, row, 0, place})
			}
			if empty[next] {
				i.read++
				add(i)
			}
		}
	}
	return all
}

// matches tells whether a token is what a rule asks for.
func matches(what string, token api.Token) bool {
	switch what {
	case "NAME":
		return token.Kind == api.TokName && !slices.Contains(allWords(), token.Text)
	case "word":
		return token.Kind == api.TokName
	case "number":
		return token.Kind == api.TokNum
	}
	return what == `"`+token.Text+`"`
}

// push reads a token, and tells whether it can stand there.
func (g *reader) push(token api.Token) bool {
	var items []item
	for _, i := range g.sets[len(g.sets)-1] {
		if next := g.next(i); next != "" && matches(next, token) {
			i.read++
			items = append(items, i)
		}
	}
	g.sets = append(g.sets, g.closed(items, len(g.sets)))
	return len(items) > 0
}

// whole tells whether what was read is all of it.
func (g *reader) whole(first string) bool {
	return slices.ContainsFunc(g.sets[len(g.sets)-1], func(i item) bool {
		return i.left == first && i.from == 0 && g.next(i) == ""
	})
}

// faultOf tells the first fault of tokens by the grammar, and by what may stand in registers and numbers (not how deep, nor how many things there are).
func (g *reader) faultOf(tokens []api.Token, from int) (api.Errno, int) {
	g.sets = g.sets[:from+1]
	end := len(tokens) - 1
	bad := from
	for bad < end && g.push(tokens[bad]) {
		bad++
	}
	if code, at := wrongWithin(tokens[:bad]); code != api.OK {
		return code, at
	}
	if bad == end && g.whole("program") {
		return api.OK, 0
	}
	return api.ErrToken, tokens[bad].At
}

// wrongWithin tells the first register or number that may not be there, of tokens that can stand where they stand.
func wrongWithin(tokens []api.Token) (api.Errno, int) {
	for i, token := range tokens {
		ahead := func(n int) string { return tokens[max(i-n, 0)].Text }
		switch {
		case i+2 < len(tokens) && slices.Contains(wordsOfDevices(), token.Text) && token.Kind == api.TokName && tokens[i+1].Text == "." && ahead(1) != ".":
			if !slices.Contains(registerTexts(), token.Text+"."+tokens[i+2].Text) {
				return api.ErrReg, token.At
			}
		case token.Kind != api.TokNum || i == 0:
		case ahead(1) == "on" && token.N > 7,
			ahead(1) == "priority" && (token.N < 1 || token.N > 7),
			ahead(1) == "[" && slices.Contains([]string{"w16", "w32"}, ahead(2)) && (token.N < 1 || token.N > 64):
			return api.ErrRange, token.At
		}
	}
	return api.OK, 0
}

// wholeProgram has all that the grammar has.
func wholeProgram() string {
	return `struct S { p: w16; q: w32; }
var a: w16[3]; var b: w32; var s: S;
fn f(x: w16, y: w32): w32 { return x + -y * 2; }
fn g() { return; }
on 3 priority 2 { in b = uart.stat; out t0.ctl = (b); }
fn main() {
	var z: w16 = w16(a[1 << 2]) | ~s.p;
	a[z] = 0x1f; s.q = b; b = f(z, 3); g(); b = (b);
	if (z < 1) { sleep; } else { while (!z) { critical { halt; } } }
}
`
}

// smallPrograms are programs whose tokens are exchanged one by one.
func smallPrograms() []string {
	whole := strings.Replace(wholeProgram(), "uart.stat", "uart.stat", 1)
	return []string{whole, "", "fn f() { }", "var x: w16[64]; on 0 priority 7 { x[0] = y.z; }", "fn f(a: w16) { if (a) { } if (1) { a = a; } else { } }", "struct a { b: w16; } fn f() { a.b = a.b; in a = irq.pend; }"}
}

// otherTokens are tokens of each sort.
func otherTokens() []string {
	return append(allWords(), "x", "stat", "mask", "0", "1", "7", "8", "64", "65", "0x41", "4294967295",
		"<<", ">>", "<=", ">=", "==", "!=", "{", "}", "(", ")", "[", "]", ";", ":", ",", ".", "=", "<", ">", "+", "-", "*", "/", "%", "&", "^", "|", "~", "!")
}

// wantAsByGrammar fails unless the text has the fault that the grammar has, of tokens that are the same up to from.
func wantAsByGrammar(t *testing.T, g *reader, text string, from int) {
	t.Helper()
	tokens, err := lex.Lex(text)
	if err != nil {
		f := err.(*api.Fault)
		wantFault(t, text, f.Code, f.At)
		return
	}
	code, at := g.faultOf(tokens, from)
	if code != api.OK {
		wantFault(t, text, code, at)
	} else if _, err := parse.Parse(text); err != nil {
		t.Errorf("%q: %v At %d, but the grammar has it", text, err, err.(*api.Fault).At)
	}
}

// textsOf are the tokens of a text, and the bytes of each but the end.
func textsOf(t *testing.T, text string) ([]api.Token, []string) {
	t.Helper()
	tokens, err := lex.Lex(text)
	if err != nil {
		t.Fatal(err)
	}
	var all []string
	for _, token := range tokens[:len(tokens)-1] {
		all = append(all, token.Text)
	}
	return tokens, all
}

// The grammar itself has what the examples have, and nothing else of these.
func TestGrammarOfTheTests(t *testing.T) {
	g := newReader(readRules(grammar), "program")
	for text, want := range map[string]bool{
		"": true, "fn f() { }": true, "fn f() { x = g(1); y = (g); }": true, "fn f( { }": false, "fn f() { x = 1 + 2 * y; }": true,
		"fn f() { x = 1 + g(2); }": false, "struct s { }": false, "fn f() { x = -~!w16(1)[2]; }": false, "fn": false,
	} {
		tokens, _ := textsOf(t, text)
		if code, at := g.faultOf(tokens, 0); (code == api.OK) != want {
			t.Errorf("%q: %v At %d", text, code, at)
		}
	}
}

// P3.1: each token left out, exchanged, put in: the first one with which no program can go on is told, or what is wrong ahead.
func TestP31OtherTokens(t *testing.T) {
	for _, program := range smallPrograms() {
		tokens, texts := textsOf(t, program)
		g := newReader(readRules(grammar), "program")
		for i := range len(texts) + 1 {
			first := strings.Join(texts[:i], " ") + " "
			want := func(behind ...string) {
				wantAsByGrammar(t, g, first+strings.Join(behind, " "), i)
			}
			want(texts[i:]...)
			for _, other := range otherTokens() {
				want(append([]string{other}, texts[i:]...)...)
				if i < len(texts) {
					want(append([]string{other}, texts[i+1:]...)...)
				}
			}
			if i < len(texts) {
				want(texts[i+1:]...)
			}
			if i+1 < len(texts) {
				want(append([]string{texts[i+1], texts[i]}, texts[i+2:]...)...)
			}
			g.sets = g.sets[:i+1]
			g.push(tokens[i])
		}
	}
}

// P3.1: a text that ends anywhere: at any of its bytes.
func TestP31TextsThatEnd(t *testing.T) {
	for _, program := range smallPrograms() {
		for end := range len(program) + 1 {
			g := newReader(readRules(grammar), "program")
			wantAsByGrammar(t, g, program[:end], 0)
			wantAsByGrammar(t, g, program[:end]+"// ends", 0)
		}
	}
}

// P3.1: a text that begins anywhere.
func TestP31TextsThatBegin(t *testing.T) {
	for _, program := range smallPrograms() {
		for begin := range len(program) {
			g := newReader(readRules(grammar), "program")
			wantAsByGrammar(t, g, program[begin:], 0)
		}
	}
}

// P3.1: tokens by chance, of which each may stand where it stands, but for the last one.
func TestP31TokensByChance(t *testing.T) {
	d := dice(1)
	r := readRules(grammar)
	for range 300 {
		g := newReader(r, "program")
		var text strings.Builder
		for range 1 + d.below(120) {
			other := d.pick(otherTokens())
			tokens, _ := textsOf(t, other)
			if sets := len(g.sets); !g.push(tokens[0]) && d.below(20) > 0 {
				g.sets = g.sets[:sets]
				continue
			}
			text.WriteString(other + " ")
		}
		wantAsByGrammar(t, newReader(r, "program"), text.String(), 0)
	}
}
