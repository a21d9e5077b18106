package print_test

import (
	"reflect"
	"strconv"
	"strings"
	"testing"

	"plover/api"
	"plover/parse"
	"plover/print"
)

// wantAgain fails unless the program of a text, printed, is parsed to the same but for places and lines, and printed the same once more.
func wantAgain(t *testing.T, text string) {
	t.Helper()
	p := parsed(t, text)
	printed := print.Print(p)
	again, err := parse.Parse(printed)
	if err != nil {
		t.Fatalf("%q is printed as %q: %v (%+v)", text, printed, err, err)
	}
	if !reflect.DeepEqual(print.Bare(again), print.Bare(p)) {
		t.Fatalf("%q is printed as %q, which is another program", text, printed)
	}
	if twice := print.Print(again); twice != printed {
		t.Fatalf("%q, and printed once more %q", printed, twice)
	}
	if bare := print.Print(print.Bare(p)); bare != printed {
		t.Fatalf("%q, and without places %q", printed, bare)
	}
}

// P4.3: some texts, with all that stands between tokens.
func TestP43Texts(t *testing.T) {
	for _, text := range []string{
		"", "// nothing\n", "fn main(){}", "on 0 priority 1{}",
		"fn f(){return;}fn g():w16{return 0x1F;}\n\n\non 7 priority 7{sleep ;} // end",
		"struct S{p:w16;q:w32;}var s:S;var a:w16;var h:w32[64];struct T{a:w16;}",
		"fn f(a:w16,b:w32):w32{if(a){}else{}if(a){}else{halt;}while(((b))){critical{}}}",
		"fn f() { x = g(1); y = (g); z = g(((h[1])), -(-(2))); g(); s.p = w16(w32(4294967295)); h[h[0]] = ~!-s.p; }",
		"fn f() { in x = uart.stat; out irq.mask = 1 << 2 + 3; var v: w16 = (1 << 2) + 3; }",
	} {
		wantAgain(t, text)
	}
	all := "fn f() {"
	for number := range api.LastReg + 1 {
		all += "in x=" + registerTexts()[number] + ";out " + registerTexts()[number] + "=1;"
	}
	wantAgain(t, all+"}")
}

// rowOf is the text of names with these operators between.
func rowOf(row []mark) string {
	text := "a"
	for i, m := range row {
		text += m.text + string(rune('b'+i))
	}
	return text
}

// P4.3: each three operators, in each order in which they can be done; and no parentheses stand there that could be left out.
func TestP43ThreeOperators(t *testing.T) {
	for _, x := range marks() {
		for _, y := range marks() {
			for _, z := range marks() {
				for _, text := range []string{"((a%b)%c)%d", "(a%(b%c))%d", "(a%b)%(c%d)", "a%((b%c)%d)", "a%(b%(c%d))"} {
					for _, m := range []mark{x, y, z} {
						text = strings.Replace(text, "%", " "+m.text+" ", 1)
					}
					wantNoneTooMany(t, text)
				}
			}
		}
	}
}

// tree answers the expression of a text, without places.
func tree(t *testing.T, text string) api.Expr {
	t.Helper()
	p := print.Bare(parsed(t, "fn f() { x = "+text+"; }"))
	return p.Funcs[0].Body[0].E[0]
}

// wantNoneTooMany fails unless the expression's text means the same, and would not without any of its parentheses.
func wantNoneTooMany(t *testing.T, text string) {
	t.Helper()
	e := tree(t, text)
	printed := print.Expr(e)
	if !reflect.DeepEqual(tree(t, printed), e) {
		t.Fatalf("%s is printed as %s, which is another expression", text, printed)
	}
	for i := range printed {
		if printed[i] != '(' {
			continue
		}
		end := i + closing(printed[i:])
		if without := printed[:i] + printed[i+1:end] + printed[end+1:]; reflect.DeepEqual(tree(t, without), e) {
			t.Fatalf("%s is printed as %s, but %s is the same", text, printed, without)
		}
	}
}

// closing answers the place of the parenthesis that closes the first one.
func closing(text string) int {
	open := 0
	for i := range text {
		switch text[i] {
		case '(':
			open++
		case ')':
			if open--; open == 0 {
				return i
			}
		}
	}
	return -1
}

// P4.3: rows that are long; printed they are longer, but must still be a text.
func TestP43LongRows(t *testing.T) {
	for _, m := range marks() {
		wantAgain(t, "fn f(){x=1"+strings.Repeat(m.text+"1", 3000)+";}")
	}
}

// dice answers numbers below n, the same ones each time.
type dice uint64

func (d *dice) below(n int) int {
	*d = *d*6364136223846793005 + 1442695040888963407
	return int(uint64(*d) >> 33 % uint64(n))
}

// writer writes a text of any program, with more parentheses than are needed.
type writer struct {
	dice
	text  strings.Builder
	kinds map[string]int // of what was written
}

// put writes texts, with gaps between.
func (w *writer) put(all ...string) {
	for _, text := range all {
		w.text.WriteString([]string{" ", "  ", "\n", "\t", " // ) }\n"}[w.below(5)])
		w.text.WriteString(text)
	}
}

func (w *writer) pick(from ...string) string {
	one := from[w.below(len(from))]
	w.kinds[one]++
	return one
}

func (w *writer) name() {
	w.put([]string{"x", "y", "_", "inn", "w161", "OUT", "abcdefghijklmnop"}[w.below(7)])
}

// is tells one of two.
func (w *writer) is() bool {
	return w.below(2) == 0
}

func (w *writer) expression(nest int) {
	w.one(nest)
	for range []int{0, 0, 1, 1, 2, 4}[w.below(6)] {
		w.put(w.pick("*", "/", "%", "+", "-", "<<", ">>", "<", "<=", ">", ">=", "==", "!=", "&", "^", "|"))
		w.one(nest)
	}
}

func (w *writer) one(nest int) {
	what := w.pick("number", "name", "field", "element", "w16()", "w32()", "unary -", "~", "!", "()", "()")
	if nest == api.MaxNest || w.text.Len() > 3000 {
		what = w.pick("number", "name", "field")
	}
	switch what {
	case "number":
		w.put(strconv.Itoa(w.below(1 << 31 >> w.below(32))))
	case "name":
		w.name()
	case "field":
		w.name()
		w.put(".")
		w.name()
	case "element":
		w.name()
		w.within("[", "]", nest)
	case "w16()", "w32()":
		w.put(what[:3])
		w.within("(", ")", nest)
	case "()":
		w.within("(", ")", nest)
	default:
		w.put(what[len(what)-1:])
		w.one(nest + 1)
	}
}

func (w *writer) within(begin, end string, nest int) {
	w.put(begin)
	w.expression(nest + 1)
	w.put(end)
}

// value writes = and a value and the statement's end.
func (w *writer) value(nest int) {
	w.put("=")
	w.expression(nest)
	w.put(";")
}

func (w *writer) block(nest int) {
	w.put("{")
	for range w.below(4) {
		w.statement(nest)
	}
	w.put("}")
}

func (w *writer) call(nest int) {
	w.name()
	w.put("(")
	for i := range w.below(4) {
		if i > 0 {
			w.put(",")
		}
		w.expression(nest)
	}
	w.put(")", ";")
}

func (w *writer) register() {
	device, word, _ := strings.Cut(registerTexts()[w.below(api.LastReg+1)], ".")
	w.put(device, ".", word)
}

func (w *writer) statement(nest int) {
	what := w.pick("var", "set", "cell", "setfield", "call", "called", "in", "out", "if", "else", "while", "critical", "sleep", "halt", "return", "return e")
	if nest == api.MaxNest || w.text.Len() > 3000 {
		what = w.pick("sleep", "halt", "set")
	}
	switch what {
	case "var":
		w.put("var")
		w.name()
		w.put(":", []string{"w16", "w32"}[w.below(2)])
		w.value(nest)
	case "set":
		w.name()
		w.value(nest)
	case "cell":
		w.name()
		w.within("[", "]", nest)
		w.value(nest)
	case "setfield":
		w.name()
		w.put(".")
		w.name()
		w.value(nest)
	case "call":
		w.call(nest)
	case "called":
		w.name()
		w.put("=")
		w.call(nest)
	case "in":
		w.put("in")
		w.name()
		w.put("=")
		w.register()
		w.put(";")
	case "out":
		w.put("out")
		w.register()
		w.value(nest)
	default:
		w.worded(what, nest)
	}
}

// worded writes a statement that begins with a word, and may have blocks.
func (w *writer) worded(what string, nest int) {
	switch what {
	case "if", "else", "while":
		w.put(strings.Replace(what, "else", "if", 1), "(")
		w.expression(nest)
		w.put(")")
		w.block(nest + 1)
		if what == "else" {
			w.put("else")
			w.block(nest + 1)
		}
	case "critical":
		w.put("critical")
		w.block(nest + 1)
	case "return e":
		w.put("return")
		w.expression(nest)
		w.put(";")
	default:
		w.put(what, ";")
	}
}

// typed writes a name, and its type.
func (w *writer) typed() {
	w.name()
	w.put(":", w.pick("w16", "w32"))
}

func (w *writer) program() {
	for range w.below(8) {
		switch what := w.pick("struct", "number's global", "array", "struct's global", "fn", "fn", "on"); what {
		case "struct":
			w.put("struct")
			w.name()
			w.put("{")
			for range 1 + w.below(4) {
				w.typed()
				w.put(";")
			}
			w.put("}")
		case "fn", "on":
			w.function(what)
		default:
			w.global(what)
		}
	}
}

func (w *writer) global(what string) {
	w.put("var")
	switch what {
	case "number's global":
		w.typed()
	case "array":
		w.typed()
		w.put("[", strconv.Itoa(1+w.below(api.MaxArray)), "]")
	default:
		w.name()
		w.put(":")
		w.name()
	}
	w.put(";")
}

func (w *writer) function(what string) {
	w.put(what)
	if what == "on" {
		w.put(strconv.Itoa(w.below(api.Vectors)), "priority", strconv.Itoa(1+w.below(api.MaxPrio)))
		w.block(0)
		return
	}
	w.name()
	w.put("(")
	for i := range w.below(api.MaxParams + 1) {
		if i > 0 {
			w.put(",")
		}
		w.typed()
	}
	w.put(")")
	if w.is() {
		w.put(":", w.pick("w16", "w32"))
	}
	w.block(0)
}

// P4.3: programs of any parts.
func TestP43AnyPrograms(t *testing.T) {
	kinds := map[string]int{}
	for seed := range 3000 {
		w := &writer{dice: dice(seed), kinds: kinds}
		w.program()
		wantAgain(t, w.text.String())
	}
	if len(kinds) != 16+10+16+2+6 {
		t.Errorf("%d kinds were written: %v", len(kinds), kinds)
	}
	for kind, n := range kinds {
		if n < 100 {
			t.Errorf("only %d of %s were written", n, kind)
		}
	}
}
