package parse_test

import (
	"strconv"
	"strings"
	"testing"

	"plover/api"
	"plover/lex"
)

// dice answers numbers below n, the same ones each time.
type dice uint64

func (d *dice) below(n int) int {
	*d = *d*6364136223846793005 + 1442695040888963407
	return int(uint64(*d) >> 33 % uint64(n))
}

func (d *dice) pick(from []string) string {
	return from[d.below(len(from))]
}

// mark is an operator of two values: its bytes, and what it makes.
type mark struct {
	text string
	kind int
}

// marksByLevel are the operators of two values, those first that bind closest.
func marksByLevel() [][]mark {
	return [][]mark{
		{{"*", api.EMul}, {"/", api.EDiv}, {"%", api.ERem}},
		{{"+", api.EAdd}, {"-", api.ESub}},
		{{"<<", api.EShl}, {">>", api.EShr}},
		{{"<", api.ELt}, {"<=", api.ELe}, {">", api.EGt}, {">=", api.EGe}, {"==", api.EEq}, {"!=", api.ENe}},
		{{"&", api.EAnd}},
		{{"^", api.EXor}},
		{{"|", api.EOr}},
	}
}

// rowMark is an operator that stands in a row, and where.
type rowMark struct {
	mark
	level, at int
}

func allMarks() []rowMark {
	var all []rowMark
	for level, marks := range marksByLevel() {
		for _, m := range marks {
			all = append(all, rowMark{mark: m, level: level})
		}
	}
	return all
}

// treeOf makes the tree of a row: at its top stands the last operator of those that bind least.
func treeOf(ones []api.Expr, marks []rowMark) api.Expr {
	if len(marks) == 0 {
		return ones[0]
	}
	top := 0
	for i, m := range marks {
		if m.level >= marks[top].level {
			top = i
		}
	}
	return with(marks[top].kind, marks[top].at, treeOf(ones[:top+1], marks[:top]), treeOf(ones[top+1:], marks[top+1:]))
}

// maker writes a text, token by token, and tells beside that which tree it has.
type maker struct {
	dice
	gaps     dice // apart from the other ones, so that one program can be laid with other gaps
	between  []string
	text     strings.Builder
	line     int
	last     byte
	tokens   int
	deepest  int
	kinds    map[int]int // of statements that were made
	ones     map[int]int // of expressions
	deepOnes int
}

func newMaker(seed, gaps int, between []string) *maker {
	return &maker{dice: dice(seed), gaps: dice(gaps), between: between, line: 1, kinds: map[int]int{}, ones: map[int]int{}}
}

// allGaps are rows of what may stand between tokens.
func allGaps() []string {
	return []string{"", "", "", " ", " ", "\n", "\t", "  \n\t", "// c\n", " //\n\n", "// fn $ 99999999999 \xff\n", "\n\n//x//y\n//\n "}
}

func wordByte(b byte) bool {
	return b == '_' || b >= '0' && b <= '9' || b >= 'a' && b <= 'z' || b >= 'A' && b <= 'Z'
}

func (m *maker) write(text string) {
	m.text.WriteString(text)
	m.line += strings.Count(text, "\n")
	if text != "" {
		m.last = text[len(text)-1]
	}
}

// put writes a token, behind a gap, and tells its place and its line.
func (m *maker) put(token string) (at, line int) {
	gap := m.gaps.pick(m.between)
	if gap == "" && wordByte(m.last) && wordByte(token[0]) || m.last == '/' {
		gap = " " + gap
	}
	m.write(gap)
	m.tokens++
	at, line = m.text.Len(), m.line
	m.write(token)
	return at, line
}

// puts writes several tokens.
func (m *maker) puts(tokens ...string) {
	for _, token := range tokens {
		m.put(token)
	}
}

func (m *maker) anyName() string {
	return m.pick([]string{"x", "y", "_", "a1", "main", "inn", "w161", "OUT", "t2", "elsewhere", "abcdefghijklmnop", "mask", "out_"})
}

// putName writes a name, and answers it with its place.
func (m *maker) putName() (string, int) {
	n := m.anyName()
	at, _ := m.put(n)
	return n, at
}

func (m *maker) expression(nest int) api.Expr {
	marks := allMarks()
	ones := []api.Expr{m.one(nest)}
	var row []rowMark
	for range []int{0, 0, 0, 1, 1, 2, 6}[m.below(7)] {
		next := marks[m.below(len(marks))]
		next.at, _ = m.put(next.text)
		row = append(row, next)
		ones = append(ones, m.one(nest))
	}
	return treeOf(ones, row)
}

// one makes a value without operators of two; the deepest ones have nothing within.
func (m *maker) one(nest int) api.Expr {
	m.deepest = max(m.deepest, nest)
	which := m.below(16)
	if nest == api.MaxNest || m.tokens > 1000 {
		which = 8 + m.below(8)
	}
	if nest == api.MaxNest {
		m.deepOnes++
	}
	e := m.oneOf(which, nest)
	m.ones[e.Op]++
	return e
}

func (m *maker) oneOf(which, nest int) api.Expr {
	switch which {
	case 0, 1, 2:
		row := []mark{{"-", api.ENeg}, {"~", api.ENot}, {"!", api.EZero}}[which]
		at, _ := m.put(row.text)
		return with(row.kind, at, m.one(nest+1))
	case 3, 4:
		row := []mark{{"w16", api.EW16}, {"w32", api.EW32}}[which-3]
		at, _ := m.put(row.text)
		return with(row.kind, at, m.within("(", ")", nest))
	case 5, 6:
		return m.within("(", ")", nest)
	case 7:
		n, at := m.putName()
		return api.Expr{Op: api.EElem, At: at, Name: n, Args: []api.Expr{m.within("[", "]", nest)}}
	case 8:
		n, at := m.putName()
		m.put(".")
		field, _ := m.putName()
		return api.Expr{Op: api.EField, At: at, Name: n, Field: field}
	case 9, 10, 11:
		n, at := m.putName()
		return name(at, n)
	}
	n := int64(m.below(1<<31)) << m.below(2) >> m.below(32)
	at, _ := m.put([]string{strconv.FormatInt(n, 10), "0x" + strconv.FormatInt(n, 16)}[which&1])
	return num(at, n)
}

func (m *maker) within(begin, end string, nest int) api.Expr {
	m.put(begin)
	e := m.expression(nest + 1)
	m.put(end)
	return e
}

// block makes a block behind its brace, and tells the line of the closing one.
func (m *maker) block(nest int) ([]api.Stmt, int) {
	var all []api.Stmt
	for range m.below(4) {
		all = append(all, m.statement(nest))
	}
	_, line := m.put("}")
	return all, line
}

func (m *maker) inner(nest int) ([]api.Stmt, int) {
	m.put("{")
	return m.block(nest + 1)
}

func (m *maker) statement(nest int) api.Stmt {
	m.deepest = max(m.deepest, nest)
	which := m.below(15)
	if nest == api.MaxNest || m.tokens > 1000 {
		which = m.below(10)
	}
	var s api.Stmt
	if which < 6 {
		s = m.named(which, nest)
	} else {
		s = m.worded(which, nest)
	}
	m.kinds[s.Op]++
	return s
}

// value makes = and a value and the statement's end.
func (m *maker) value(nest int) api.Expr {
	m.put("=")
	e := m.expression(nest)
	m.put(";")
	return e
}

func (m *maker) named(which, nest int) api.Stmt {
	n := m.anyName()
	at, line := m.put(n)
	s := api.Stmt{At: at, Line: line, Name: n}
	switch which {
	case 0, 1:
		s.Op, s.E = api.SSet, []api.Expr{m.value(nest)}
	case 2:
		if nest == api.MaxNest {
			s.Op, s.E = api.SSet, []api.Expr{m.value(nest)}
			break
		}
		index := m.within("[", "]", nest)
		s.Op, s.E = api.SCell, []api.Expr{index, m.value(nest)}
	case 3:
		m.put(".")
		s.Field, _ = m.putName()
		s.Op, s.E = api.SField, []api.Expr{m.value(nest)}
	case 4:
		s.Name, s.Func = "", n
		s.Op, s.E = api.SCall, m.arguments(nest)
	case 5:
		m.put("=")
		s.Func, _ = m.putName()
		s.Op, s.E = api.SCall, m.arguments(nest)
	}
	return s
}

func (m *maker) arguments(nest int) []api.Expr {
	var all []api.Expr
	m.put("(")
	for i := range m.below(9) {
		if i > 0 {
			m.put(",")
		}
		all = append(all, m.expression(nest))
	}
	m.puts(")", ";")
	return all
}

func (m *maker) register() int {
	number := m.below(api.LastReg + 1)
	device, word, _ := strings.Cut(registerTexts()[number], ".")
	m.puts(device, ".", word)
	return number
}

func (m *maker) worded(which, nest int) api.Stmt {
	word := strings.Fields("var in out sleep-halt return if if-else while critical")[which-6]
	if word == "sleep-halt" {
		word = m.pick([]string{"sleep", "halt"})
	}
	first, _, _ := strings.Cut(word, "-")
	at, line := m.put(first)
	s := api.Stmt{At: at, Line: line}
	switch word {
	case "var":
		s.Name, _ = m.putName()
		m.put(":")
		s.Op, s.Type = api.SVar, m.numberType()
		s.E = []api.Expr{m.value(nest)}
	case "in":
		s.Name, _ = m.putName()
		m.put("=")
		s.Op, s.Reg = api.SIn, m.register()
		m.put(";")
	case "out":
		s.Op, s.Reg = api.SOut, m.register()
		s.E = []api.Expr{m.value(nest)}
	case "sleep", "halt":
		s.Op = map[string]int{"sleep": api.SSleep, "halt": api.SHalt}[word]
		m.put(";")
	case "return":
		s.Op = api.SReturn
		if m.below(2) == 0 {
			s.E = []api.Expr{m.expression(nest)}
		}
		m.put(";")
	default:
		m.withBlock(word, nest, &s)
	}
	return s
}

// withBlock makes what stands behind the first word of a statement that has a block.
func (m *maker) withBlock(word string, nest int, s *api.Stmt) {
	s.Op = map[string]int{"if": api.SIf, "if-else": api.SIf, "while": api.SWhile, "critical": api.SCrit}[word]
	if word != "critical" {
		m.put("(")
		s.E = []api.Expr{m.expression(nest)}
		m.put(")")
	}
	s.Body, s.End = m.inner(nest)
	if word == "if-else" {
		m.put("else")
		s.Else, _ = m.inner(nest)
	}
}

func (m *maker) numberType() int {
	t := []int{api.W16, api.W32}[m.below(2)]
	m.put(map[int]string{api.W16: "w16", api.W32: "w32"}[t])
	return t
}

func (m *maker) typedName() api.Param {
	n, at := m.putName()
	m.put(":")
	return api.Param{Name: n, At: at, Type: m.numberType()}
}

// program makes parts of all kinds, in any order.
func (m *maker) program() api.Prog {
	var p api.Prog
	for range m.below(10) {
		switch m.below(5) {
		case 0:
			p.Structs = append(p.Structs, m.structure())
		case 1:
			p.Globals = append(p.Globals, m.global())
		case 2, 3:
			p.Funcs = append(p.Funcs, m.function())
		case 4:
			p.Funcs = append(p.Funcs, m.handler())
		}
	}
	m.write(m.gaps.pick(m.between))
	return p
}

func (m *maker) structure() api.Struct {
	m.put("struct")
	n, at := m.putName()
	s := api.Struct{Name: n, At: at}
	m.put("{")
	for range 1 + m.below(16) {
		s.Fields = append(s.Fields, m.typedName())
		m.put(";")
	}
	m.put("}")
	return s
}

func (m *maker) global() api.Global {
	m.put("var")
	n, at := m.putName()
	g := api.Global{Name: n, At: at}
	m.put(":")
	switch m.below(3) {
	case 0:
		g.Type = m.numberType()
	case 1:
		g.Type = m.numberType()
		g.Count = 1 + m.below(api.MaxArray)
		m.puts("[", strconv.Itoa(g.Count), "]")
	case 2:
		g.Struct, _ = m.putName()
	}
	m.put(";")
	return g
}

func (m *maker) function() api.Func {
	at, line := m.put("fn")
	f := api.Func{At: at, Line: line, Vector: -1}
	f.Name, _ = m.putName()
	m.put("(")
	for i := range m.below(api.MaxParams + 1) {
		if i > 0 {
			m.put(",")
		}
		f.Params = append(f.Params, m.typedName())
	}
	m.put(")")
	if m.below(2) == 0 {
		m.put(":")
		f.Result = m.numberType()
	}
	m.put("{")
	f.Body, f.End = m.block(0)
	return f
}

func (m *maker) handler() api.Func {
	at, line := m.put("on")
	f := api.Func{At: at, Line: line, Vector: m.below(api.Vectors), Prio: 1 + m.below(api.MaxPrio)}
	m.puts(strconv.Itoa(f.Vector), "priority", strconv.Itoa(f.Prio), "{")
	f.Body, f.End = m.block(0)
	return f
}

// P3.1: a program of any parts has the tree that was meant, with all places and lines.
func TestP31MadePrograms(t *testing.T) {
	kinds, ones, deepest, deepOnes, read := map[int]int{}, map[int]int{}, 0, 0, 0
	for seed := range 1000 {
		m := newMaker(seed, seed+1, allGaps())
		want := m.program()
		if m.text.Len() > api.MaxText {
			continue
		}
		read++
		wantProg(t, m.text.String(), want)
		for kind, n := range m.kinds {
			kinds[kind] += n
		}
		for kind, n := range m.ones {
			ones[kind] += n
		}
		deepest, deepOnes = max(deepest, m.deepest), deepOnes+m.deepOnes
	}
	if read < 900 || len(kinds) != api.LastStmt+1 || deepest != api.MaxNest || deepOnes < 100 {
		t.Errorf("%d programs, with statements %v, expressions %v, %d deep", read, kinds, ones, deepest)
	}
}

// bare is a program in which all places and lines are 0.
func bare(p api.Prog) api.Prog {
	for i := range p.Structs {
		p.Structs[i].At = 0
		bareNames(p.Structs[i].Fields)
	}
	for i := range p.Globals {
		p.Globals[i].At = 0
	}
	for i := range p.Funcs {
		f := &p.Funcs[i]
		f.At, f.Line, f.End = 0, 0, 0
		bareNames(f.Params)
		bareStatements(f.Body)
	}
	return p
}

func bareNames(all []api.Param) {
	for i := range all {
		all[i].At = 0
	}
}

func bareStatements(all []api.Stmt) {
	for i := range all {
		s := &all[i]
		s.At, s.Line, s.End = 0, 0, 0
		bareExpressions(s.E)
		bareStatements(s.Body)
		bareStatements(s.Else)
	}
}

func bareExpressions(all []api.Expr) {
	for i := range all {
		all[i].At = 0
		bareExpressions(all[i].Args)
	}
}

// P3.2: what stands between tokens changes nothing but places and lines.
func TestP32Gaps(t *testing.T) {
	for seed := range 150 {
		m := newMaker(seed, seed, []string{""})
		m.program()
		text := m.text.String()
		want := told(bare(parsed(t, text)))
		for gaps := range 4 {
			other := newMaker(seed, seed+gaps, allGaps())
			tree := other.program()
			if other.text.Len() > api.MaxText {
				continue
			}
			if got := told(bare(parsed(t, other.text.String()))); got != want {
				t.Fatalf("%q and %q:\n%.3000s\n%.3000s", text, other.text.String(), got, want)
			}
			if told(parsed(t, other.text.String())) != told(tree) {
				t.Fatalf("%q has other places than were meant", other.text.String())
			}
		}
	}
}

// P3.2: each gap between each two tokens of one text, alone.
func TestP32EachGap(t *testing.T) {
	tokens, err := lex.Lex(wholeProgram())
	if err != nil {
		t.Fatal(err)
	}
	want := told(bare(parsed(t, wholeProgram())))
	for i := range tokens {
		for _, gap := range []string{"  ", "\n", "\t", " // }\n", "\n\n", " //\n//\n"} {
			var text strings.Builder
			for j, token := range tokens {
				if i == j {
					text.WriteString(gap)
				}
				text.WriteString(" " + token.Text)
			}
			if got := told(bare(parsed(t, text.String()))); got != want {
				t.Fatalf("%q:\n%.3000s\n%.3000s", text.String(), got, want)
			}
		}
	}
}

// rowOf writes names with operators between, and tells the tree of that.
func rowOf(row []rowMark) (string, api.Expr) {
	text := "a"
	ones := []api.Expr{name(0, "a")}
	var marks []rowMark
	for i, m := range row {
		m.at = len(text) + 1
		marks = append(marks, m)
		n := string(rune('b' + i))
		text += " " + m.text + " "
		ones = append(ones, name(len(text), n))
		text += n
	}
	return text, treeOf(ones, marks)
}

func wantRow(t *testing.T, row []rowMark) {
	t.Helper()
	text, want := rowOf(row)
	got := body(t, "x="+text+";")[0].E[0]
	if want = moved([]api.Expr{want}, ahead+2)[0]; told(got) != told(want) {
		t.Errorf("%s:\n got %s\nwant %s", text, told(got), told(want))
	}
}

// P3.2: each operator alone, each beside each, and each three.
func TestP32RowsOfOperators(t *testing.T) {
	all := allMarks()
	if len(all) != api.EOr-api.EMul+1 {
		t.Fatal(len(all))
	}
	for _, a := range all {
		wantRow(t, []rowMark{a})
		for _, b := range all {
			wantRow(t, []rowMark{a, b})
			for _, c := range all {
				wantRow(t, []rowMark{a, b, c})
			}
		}
	}
}

// P3.2: some rows of two, as the chapter says by words; they stand here without the other tests' reckoning.
func TestP32CloserOnes(t *testing.T) {
	for _, c := range []struct{ text, grouped string }{
		{"a * b / c % d", "((a * b) / c) % d"},
		{"a + b * c - d", "(a + (b * c)) - d"},
		{"a << b + c >> d", "(a << (b + c)) >> d"},
		{"a < b << c", "a < (b << c)"},
		{"a < b == c >= d", "((a < b) == c) >= d"},
		{"a == b != c", "(a == b) != c"},
		{"a & b == c", "a & (b == c)"},
		{"a ^ b & c ^ d", "(a ^ (b & c)) ^ d"},
		{"a | b ^ c | d", "(a | (b ^ c)) | d"},
		{"a | b ^ c & d < e << f + g * h", "a | (b ^ (c & (d < (e << (f + (g * h))))))"},
		{"a * b + c << d < e & f ^ g | h", "((((((a * b) + c) << d) < e) & f) ^ g) | h"},
		{"-a * b", "(-a) * b"},
		{"a * -b + c", "(a * (-b)) + c"},
		{"!a == b", "(!a) == b"},
		{"~a & ~b", "(~a) & (~b)"},
	} {
		got, want := body(t, "x = "+c.text+";"), body(t, "x = "+c.grouped+";")
		bareStatements(got)
		bareStatements(want)
		if told(got) != told(want) {
			t.Errorf("%s is not %s:\n%s\n%s", c.text, c.grouped, told(got), told(want))
		}
	}
}

// P3.2: a row as long as a text may have it.
func TestP32LongRows(t *testing.T) {
	for _, mark := range allMarks() {
		text := "fn f(){x=1" + strings.Repeat(mark.text+"1", (api.MaxText-12)/(1+len(mark.text))) + ";}"
		p := parsed(t, text)
		e, deep := p.Funcs[0].Body[0].E[0], 0
		for e.Op == mark.kind {
			if e.Args[1].Op != api.ENum || e.At != e.Args[1].At-len(mark.text) {
				t.Fatalf("%s: right of %d stands %s", mark.text, deep, told(e.Args[1]))
			}
			e, deep = e.Args[0], deep+1
		}
		if e.Op != api.ENum || deep != (api.MaxText-12)/(1+len(mark.text)) {
			t.Errorf("%s: %d deep", mark.text, deep)
		}
	}
}
