package lex_test

import (
	"errors"
	"fmt"
	"math"
	"slices"
	"strconv"
	"strings"
	"sync"
	"testing"

	"plover/api"
	"plover/lex"
)

// tok is a token as a test wants it; its line is told elsewhere.
type tok struct {
	kind, at int
	text     string
	n        int64
}

func name(at int, text string) tok         { return tok{api.TokName, at, text, 0} }
func num(at int, text string, n int64) tok { return tok{api.TokNum, at, text, n} }
func mark(at int, text string) tok         { return tok{api.TokMark, at, text, 0} }
func end(at int) tok                       { return tok{api.TokEnd, at, "", 0} }

// lineOf counts the line ends ahead of a place.
func lineOf(text string, at int) int {
	line := 1
	for i := 0; i < at; i++ {
		if text[i] == 10 {
			line++
		}
	}
	return line
}

// told writes tokens down, the first ones of many.
func told(all []api.Token) string {
	return fmt.Sprintf("%q", fmt.Sprintf("%+v", all[:min(len(all), 8)]))
}

// wantTokens fails unless the text has just these tokens, each on its line.
func wantTokens(t *testing.T, text string, want ...tok) {
	t.Helper()
	got, err := lex.Lex(text)
	if err != nil {
		t.Errorf("%.60q: %v (%+v), want tokens", text, err, err)
		return
	}
	if len(got) != len(want) {
		t.Errorf("%.60q: %d tokens, want %d: %s", text, len(got), len(want), told(got))
		return
	}
	for i, w := range want {
		token := api.Token{Kind: w.kind, At: w.at, Line: lineOf(text, w.at), Text: w.text, N: w.n}
		if got[i] != token {
			t.Errorf("%.60q: token %d is %+v, want %+v", text, i, got[i], token)
		}
	}
}

// wantFault fails unless the text has no tokens, but that fault.
func wantFault(t *testing.T, text string, code api.Errno, at int) {
	t.Helper()
	got, err := lex.Lex(text)
	if len(got) != 0 {
		t.Errorf("%.60q: tokens %s beside an error", text, told(got))
	}
	f, is := err.(*api.Fault)
	if !is || f == nil {
		t.Errorf("%.60q: %T %v, want a *api.Fault %v At %d", text, err, err, code, at)
		return
	}
	if f.Code != code || f.At != at {
		t.Errorf("%.60q: %v At %d, want %v At %d", text, f.Code, f.At, code, at)
	}
	if !errors.Is(err, code) {
		t.Errorf("%.60q: %v does not unwrap to %v", text, err, code)
	}
}

// P2.1, P2.2: the chapter's examples.
func TestP21Examples(t *testing.T) {
	wantTokens(t, "x1 = 0x1F; // end", name(0, "x1"), mark(3, "="), num(5, "0x1F", 31), mark(9, ";"), end(17))
	wantTokens(t, "a<<=2", name(0, "a"), mark(1, "<<"), mark(3, "="), num(4, "2", 2), end(5))
	wantTokens(t, "", end(0))
	if line := lex.Line("", 0); line != 1 {
		t.Errorf("the line of an empty text's end is %d, want 1", line)
	}
	wantFault(t, "12ab", api.ErrChar, 2)
	wantFault(t, "0x", api.ErrChar, 2)
	wantFault(t, "4294967296", api.ErrNumber, 0)
	wantFault(t, "a$", api.ErrChar, 1)
}

// longMarks and shortMarks are the chapter's marks, by how many bytes they have.
var (
	longMarks  = []string{"<<", ">>", "<=", ">=", "==", "!="}
	shortMarks = strings.Split("{ } ( ) [ ] ; : , . = < > + - * / % & ^ | ~ !", " ")
)

func allMarks() []string {
	return append(slices.Clone(longMarks), shortMarks...)
}

// P2.1: each mark alone, and between names, numbers, blanks.
func TestP21EachMark(t *testing.T) {
	for _, m := range allMarks() {
		behind := len(m)
		wantTokens(t, m, mark(0, m), end(behind))
		wantTokens(t, " "+m+" ", mark(1, m), end(behind+2))
		wantTokens(t, "a"+m+"b", name(0, "a"), mark(1, m), name(1+behind, "b"), end(2+behind))
		wantTokens(t, "7"+m+"8", num(0, "7", 7), mark(1, m), num(1+behind, "8", 8), end(2+behind))
		wantTokens(t, "0x7"+m+"0x8", num(0, "0x7", 7), mark(3, m), num(3+behind, "0x8", 8), end(6+behind))
		wantTokens(t, m+" // "+m, mark(0, m), end(4+2*behind))
	}
}

// marksOf cuts a row of marks, two bytes at once where these are a mark; a comment ends it.
func marksOf(row string) []tok {
	var all []tok
	for at := 0; at < len(row); {
		size := 1
		if at+2 <= len(row) && slices.Contains(longMarks, row[at:at+2]) {
			size = 2
		}
		if strings.HasPrefix(row[at:], "//") {
			break
		}
		all = append(all, mark(at, row[at:at+size]))
		at += size
	}
	return append(all, end(len(row)))
}

// P2.1: of marks that stand together the longest one is taken.
func TestP21MarksTogether(t *testing.T) {
	wantTokens(t, "<<<", mark(0, "<<"), mark(2, "<"), end(3))
	wantTokens(t, "<<=", mark(0, "<<"), mark(2, "="), end(3))
	wantTokens(t, "<=<", mark(0, "<="), mark(2, "<"), end(3))
	wantTokens(t, "===", mark(0, "=="), mark(2, "="), end(3))
	wantTokens(t, "!==", mark(0, "!="), mark(2, "="), end(3))
	wantTokens(t, "=!=", mark(0, "="), mark(1, "!="), end(3))
	wantTokens(t, "><>=", mark(0, ">"), mark(1, "<"), mark(2, ">="), end(4))
	wantTokens(t, "=<=>", mark(0, "="), mark(1, "<="), mark(3, ">"), end(4))
	wantTokens(t, "/ /", mark(0, "/"), mark(2, "/"), end(3))
	wantTokens(t, "&&||", mark(0, "&"), mark(1, "&"), mark(2, "|"), mark(3, "|"), end(4))
	for _, a := range allMarks() {
		for _, b := range allMarks() {
			wantTokens(t, a+b, marksOf(a+b)...)
			for _, c := range allMarks() {
				wantTokens(t, a+b+c, marksOf(a+b+c)...)
			}
		}
	}
}

// P2.1: names have letters, digits and _ ; a text may end within what could be a longer mark.
func TestP21Names(t *testing.T) {
	for _, n := range []string{"a", "z", "A", "Z", "_", "__", "_1", "a0", "x9Y_", "fn", "w16", "x0x1F", "abcdefghijklmnop", "q_23456789012345"} {
		wantTokens(t, n, name(0, n), end(len(n)))
		wantTokens(t, n+"="+n, name(0, n), mark(len(n), "="), name(len(n)+1, n), end(2*len(n)+1))
		wantTokens(t, n+"<", name(0, n), mark(len(n), "<"), end(len(n)+1))
	}
	for _, b := range "abcdefghijklmnopqrstuvwxyzABCDEFGHIJKLMNOPQRSTUVWXYZ_" {
		wantTokens(t, string(b), name(0, string(b)), end(1))
		wantTokens(t, "n"+string(b)+"5", name(0, "n"+string(b)+"5"), end(3))
	}
}

// P2.1: a name has at most 16 bytes.
func TestP21LongNames(t *testing.T) {
	wantTokens(t, strings.Repeat("n", 16), name(0, strings.Repeat("n", 16)), end(16))
	wantFault(t, strings.Repeat("n", 17), api.ErrLong, 0)
	wantFault(t, strings.Repeat("n", 20000), api.ErrLong, 0)
	wantFault(t, "a = _234567890123456_", api.ErrLong, 4)
	wantFault(t, "x+"+strings.Repeat("Q", 16)+"7;", api.ErrLong, 2)
}

// P2.1: numbers to the base 10 and 16, with zeros ahead, up to 2^32 - 1.
func TestP21Numbers(t *testing.T) {
	zeros := strings.Repeat("0", 300)
	for _, c := range []struct {
		text string
		n    int64
	}{
		{"0", 0}, {"00", 0}, {"9", 9}, {"09", 9}, {"08", 8}, {"1234567890", 1234567890},
		{"0x0", 0}, {"0x00", 0}, {"0x9", 9}, {"0xa", 10}, {"0xF", 15}, {"0x1F", 31}, {"0xabcdef", 0xabcdef}, {"0xABCDEF", 0xabcdef},
		{"0x01234567", 0x01234567}, {"0x89aBcDeF", 0x89abcdef}, {"0x12", 18}, {"0x10", 16}, {"010", 10},
		{"4294967295", 1<<32 - 1}, {"0xffffffff", 1<<32 - 1}, {"0xFFFFFFFF", 1<<32 - 1}, {"2147483648", 1 << 31}, {"0x80000000", 1 << 31},
		{"4294967294", 1<<32 - 2}, {zeros, 0}, {zeros + "4294967295", 1<<32 - 1}, {"0x" + zeros, 0}, {"0x" + zeros + "ffffffff", 1<<32 - 1},
	} {
		wantTokens(t, c.text, num(0, c.text, c.n), end(len(c.text)))
		wantTokens(t, "-"+c.text+")", mark(0, "-"), num(1, c.text, c.n), mark(1+len(c.text), ")"), end(len(c.text)+2))
		wantTokens(t, c.text+"//a", num(0, c.text, c.n), end(len(c.text)+3))
	}
	wantTokens(t, "1.5", num(0, "1", 1), mark(1, "."), num(2, "5", 5), end(3))
	wantTokens(t, "1\n2", num(0, "1", 1), num(2, "2", 2), end(3))
}

// P2.1: a number above 2^32 - 1 is a fault at its place, however many digits it has.
func TestP21GreatNumbers(t *testing.T) {
	zeros := strings.Repeat("0", 300)
	for _, n := range []string{
		"4294967296", "4294967300", "5000000000", "9999999999", "10000000000", "0x100000000", "0xfffffffff", "0x1ffffffff",
		"18446744073709551615", "18446744073709551616", "18446744073709551617", "36893488147419103232",
		"0x10000000000000000", "0x10000000000000001", "0xffffffffffffffffffffffff",
		zeros + "4294967296", "0x" + zeros + "100000000", "1" + zeros, "0x1" + zeros, strings.Repeat("9", 20000),
	} {
		wantFault(t, n, api.ErrNumber, 0)
		if len(n) < 20000 {
			wantFault(t, "\n"+n, api.ErrNumber, 1)
		}
	}
	wantFault(t, "x = 4294967296 ;", api.ErrNumber, 4)
}

// P2.1: a letter or _ right behind a number is a fault at its place, if the number's value may be.
func TestP21BehindNumbers(t *testing.T) {
	for _, b := range "abcdefghijklmnopqrstuvwxyzABCDEFGHIJKLMNOPQRSTUVWXYZ_" {
		letter := string(b)
		wantFault(t, "7"+letter, api.ErrChar, 1)
		wantFault(t, " 12"+letter+" ", api.ErrChar, 3)
		wantFault(t, "007"+letter+"12", api.ErrChar, 3)
		wantFault(t, "4294967295"+letter, api.ErrChar, 10)
		wantFault(t, "4294967296"+letter, api.ErrNumber, 0)
		if letter != "x" {
			wantFault(t, "0"+letter+"1", api.ErrChar, 1)
		}
		if !strings.Contains("abcdefABCDEF", letter) {
			wantFault(t, "0x"+letter, api.ErrChar, 2)
			wantFault(t, "0x1f"+letter, api.ErrChar, 4)
			wantFault(t, "0x100000000"+letter, api.ErrNumber, 0)
		}
	}
	wantFault(t, "00x1", api.ErrChar, 2)
	wantFault(t, "10x1", api.ErrChar, 2)
	wantFault(t, "0x1x1", api.ErrChar, 3)
	wantFault(t, "1_000", api.ErrChar, 1)
	wantFault(t, "0x_1", api.ErrChar, 2)
	wantFault(t, "0x1_0", api.ErrChar, 3)
	wantFault(t, "12"+strings.Repeat("n", 17), api.ErrChar, 2)
}

// P2.1: behind 0x a digit to the base 16 must stand.
func TestP21NoDigits(t *testing.T) {
	for b := range 256 {
		text := "a\n0x" + string([]byte{byte(b)}) + "1"
		if strings.IndexByte("0123456789abcdefABCDEF", byte(b)) < 0 {
			wantFault(t, text, api.ErrChar, 4)
		} else if _, err := lex.Lex(text); err != nil {
			t.Errorf("%q: %v", text, err)
		}
	}
	wantFault(t, "0x", api.ErrChar, 2)
	wantFault(t, "1+0x", api.ErrChar, 4)
}

// P2.1: what any one byte is, alone.
func TestP21EachByte(t *testing.T) {
	const letters = "abcdefghijklmnopqrstuvwxyzABCDEFGHIJKLMNOPQRSTUVWXYZ_"
	for b := range 256 {
		text := string([]byte{byte(b)})
		switch {
		case strings.Contains(" \t\n", text):
			wantTokens(t, text, end(1))
		case strings.Contains(letters, text):
			wantTokens(t, text, name(0, text), end(1))
		case strings.Contains("0123456789", text):
			wantTokens(t, text, num(0, text, int64(b-'0')), end(1))
		case slices.Contains(shortMarks, text):
			wantTokens(t, text, mark(0, text), end(1))
		default:
			wantFault(t, text, api.ErrChar, 0)
			wantFault(t, "a "+text, api.ErrChar, 2)
			wantFault(t, "a"+text+"b", api.ErrChar, 1)
			wantFault(t, "5"+text, api.ErrChar, 1)
			wantFault(t, "<"+text, api.ErrChar, 1)
			wantFault(t, "//\n"+text, api.ErrChar, 3)
		}
	}
}

// P2.1: blanks, tabs, line ends and comments stand between tokens.
func TestP21Between(t *testing.T) {
	wantTokens(t, " \t\n \n", end(5))
	wantTokens(t, "a\tb\nc d", name(0, "a"), name(2, "b"), name(4, "c"), name(6, "d"), end(7))
	wantTokens(t, "//", end(2))
	wantTokens(t, "//\n", end(3))
	wantTokens(t, "// a comment that ends with the text", end(36))
	wantTokens(t, "a//b\nc", name(0, "a"), name(5, "c"), end(6))
	wantTokens(t, "a//b//c\n//d\n\n//\ne", name(0, "a"), name(16, "e"), end(17))
	wantTokens(t, "///\n/", mark(4, "/"), end(5))
	wantTokens(t, "// $ 0x 4294967296 é\x00\xff\r\na", name(25, "a"), end(26))
	wantTokens(t, "a /", name(0, "a"), mark(2, "/"), end(3))
	for b := range 256 {
		if b != '\n' {
			wantTokens(t, "x//"+string([]byte{byte(b)})+"y", name(0, "x"), end(5))
		}
	}
	wantFault(t, "a\r\nb", api.ErrChar, 1)
	wantFault(t, "a\u00a0b", api.ErrChar, 1)
	wantFault(t, "aé", api.ErrChar, 1)
}

// P2.1: a text has at most 20000 bytes; of a longer one nothing else is told.
func TestP21LongTexts(t *testing.T) {
	wantTokens(t, strings.Repeat(" ", 20000), end(20000))
	wantTokens(t, strings.Repeat("\n", 19999)+"a", name(19999, "a"), end(20000))
	wantTokens(t, strings.Repeat("/", 20000), end(20000))
	wantFault(t, strings.Repeat(" ", 20001), api.ErrLong, 20000)
	wantFault(t, strings.Repeat("$", 20001), api.ErrLong, 20000)
	wantFault(t, strings.Repeat("n", 20001), api.ErrLong, 20000)
	wantFault(t, strings.Repeat("9", 20001), api.ErrLong, 20000)
	wantFault(t, strings.Repeat(";", 70000), api.ErrLong, 20000)
	wantFault(t, strings.Repeat(" ", 19999)+"$", api.ErrChar, 19999)
	all, err := lex.Lex(strings.Repeat(";", 20000))
	if err != nil || len(all) != 20001 || all[19999].At != 19999 || all[20000].Kind != api.TokEnd {
		t.Errorf("20000 marks: %d tokens, %v", len(all), err)
	}
}

// P2.1: of several faults the first one from left to right is told.
func TestP21FirstFault(t *testing.T) {
	faults := []struct {
		text string
		code api.Errno
		at   int
	}{
		{"$", api.ErrChar, 0},
		{strings.Repeat("n", 17), api.ErrLong, 0},
		{"0x", api.ErrChar, 2},
		{"4294967296", api.ErrNumber, 0},
		{"0x100000000z", api.ErrNumber, 0},
		{"12ab", api.ErrChar, 2},
	}
	for _, a := range faults {
		for _, b := range faults {
			wantFault(t, a.text+" "+b.text, a.code, a.at)
			wantFault(t, "x = 1; "+a.text+"\n;"+b.text, a.code, 7+a.at)
			wantFault(t, "//"+a.text+"\n"+b.text, b.code, len(a.text)+3+b.at)
		}
	}
}

// P2.1: an answer is the caller's, and the same each time.
func TestP21AnswersAreTheCallers(t *testing.T) {
	const text = "fn main() { out gpio.out = 0x10; } // end"
	first, _ := lex.Lex(text)
	kept := slices.Clone(first)
	for i := range first {
		first[i] = api.Token{Kind: 77, Text: "no"}
	}
	second, err := lex.Lex(text)
	if err != nil || !slices.Equal(second, kept) {
		t.Errorf("once more: %+v, %v, want %+v", second, err, kept)
	}
	_, err = lex.Lex("a $")
	err.(*api.Fault).At = 99
	wantFault(t, "a $", api.ErrChar, 2)
}

// P2.1: many may ask at once, also at first.
func TestP21ManyAtOnce(t *testing.T) {
	var all sync.WaitGroup
	for range 8 {
		all.Go(func() {
			wantTokens(t, "a<=0x2", name(0, "a"), mark(1, "<="), num(3, "0x2", 2), end(6))
			wantFault(t, "a?", api.ErrChar, 1)
		})
	}
	all.Wait()
}

// P2.2: a line is 1 and the line ends ahead; a place outside the text is the nearest one in it.
func TestP22Line(t *testing.T) {
	for _, text := range []string{"", "a", "\n", "\n\n\n", "a\nb", "a\n", "a b\r\n\n// c\n\td\n", "\x00\n\xff"} {
		for at := range len(text) + 1 {
			if line := lex.Line(text, at); line != lineOf(text, at) {
				t.Errorf("Line(%q, %d) = %d, want %d", text, at, line, lineOf(text, at))
			}
		}
		for _, below := range []int{-1, -2, math.MinInt} {
			if line := lex.Line(text, below); line != 1 {
				t.Errorf("Line(%q, %d) = %d, want 1", text, below, line)
			}
		}
		for _, above := range []int{len(text) + 1, len(text) + 2, 20001, math.MaxInt} {
			if line := lex.Line(text, above); line != lineOf(text, len(text)) {
				t.Errorf("Line(%q, %d) = %d, want %d", text, above, line, lineOf(text, len(text)))
			}
		}
	}
}

// P2.2: a line end is still on the line that it ends; that of a long text is told, too.
func TestP22LineEnds(t *testing.T) {
	for at, want := range []int{1, 1, 2, 2, 3} {
		if line := lex.Line("a\nb\n", at); line != want {
			t.Errorf("Line at %d: %d, want %d", at, line, want)
		}
	}
	if line := lex.Line(strings.Repeat("\n", 30000), 25000); line != 25001 {
		t.Errorf("Line of a long text: %d, want 25001", line)
	}
}

// dice answers numbers below n, the same ones each time.
type dice uint64

func (d *dice) below(n int) int {
	*d = *d*6364136223846793005 + 1442695040888963407
	return int(uint64(*d) >> 33 % uint64(n))
}

// anyText makes a text of pieces of texts, some of which are none of a program.
func anyText(d *dice, pieces []string) string {
	var text strings.Builder
	for range d.below(30) {
		text.WriteString(pieces[d.below(len(pieces))])
	}
	return text.String()
}

func goodPieces() []string {
	return append(allMarks(), " ", "\n", "\t", "a", "b1", "_", "0", "7", "42", "0x1F", "0xabc", "4294967295", " fn ", " 000 ", "// c $\n", "\n//\n")
}

// betweenOnly tells whether just blanks, tabs, line ends and comments stand there.
func betweenOnly(text string) bool {
	for text != "" {
		switch {
		case strings.HasPrefix(text, "//"):
			_, text, _ = strings.Cut(text, "\n")
		case strings.Contains(" \t\n", text[:1]):
			text = text[1:]
		default:
			return false
		}
	}
	return true
}

// P2.3: tokens rise, stand apart, and have the text's bytes; between them stands just what may; their lines are Line's.
func TestP23TokensOfTheText(t *testing.T) {
	d := dice(1)
	read := 0
	for range 5000 {
		text := anyText(&d, goodPieces())
		all, err := lex.Lex(text)
		if err != nil {
			continue
		}
		read++
		behind := 0
		for i, token := range all {
			if token.At < behind || !betweenOnly(text[behind:token.At]) {
				t.Fatalf("%q: ahead of token %d stands what may not: %+v", text, i, all)
			}
			behind = token.At + len(token.Text)
			if token.Text != text[token.At:behind] || token.Line != lex.Line(text, token.At) {
				t.Fatalf("%q: token %d is %+v", text, i, token)
			}
			if (token.Kind == api.TokEnd) != (i == len(all)-1) || (token.Text == "") != (token.Kind == api.TokEnd) {
				t.Fatalf("%q: the end, or a token of no bytes, is %d: %+v", text, i, token)
			}
		}
		if behind != len(text) {
			t.Fatalf("%q ends at %d", text, behind)
		}
	}
	if read < 500 {
		t.Errorf("only %d texts had tokens", read)
	}
}

// P2.3: tokens set one behind the other have the same kinds, texts and values.
func TestP23SetAnew(t *testing.T) {
	d := dice(2)
	texts := []string{"", "fn main() { out gpio.out = 5; }", "a<<=2", "x1 = 0x1F; // end", "/ // /\n/", "a<=b<c<<d!=!e==f=g>=h>>i>j"}
	for range 3000 {
		texts = append(texts, anyText(&d, goodPieces()))
	}
	for _, text := range texts {
		all, err := lex.Lex(text)
		if err != nil {
			continue
		}
		for _, between := range []string{" ", "\n", "\t", " \n\t", " //\n", " // a / comment; $\n"} {
			var anew strings.Builder
			for _, token := range all {
				anew.WriteString(token.Text + between)
			}
			again, err := lex.Lex(anew.String())
			if err != nil || !slices.EqualFunc(all, again, sameToken) {
				t.Fatalf("%q is %+v, %q is %+v, %v", text, all, anew.String(), again, err)
			}
		}
	}
}

func sameToken(a, b api.Token) bool {
	return a.Kind == b.Kind && a.Text == b.Text && a.N == b.N
}

// P2.3: a number has the value that its digits have.
func TestP23Values(t *testing.T) {
	d := dice(3)
	for range 2000 {
		n := int64(d.below(1<<31)) << d.below(2)
		for _, text := range []string{strconv.FormatInt(n, 10), "0x" + strconv.FormatInt(n, 16), "0x0" + strings.ToUpper(strconv.FormatInt(n, 16))} {
			wantTokens(t, text, num(0, text, n), end(len(text)))
		}
	}
}

// P1: whatever bytes stand there, Lex ends, and answers tokens, or a fault within the text.
func TestP1AnyBytes(t *testing.T) {
	d := dice(4)
	pieces := append(goodPieces(), "$", "\x00", "\xff", "0x", "4294967296", "é", "\r", strings.Repeat("n", 9))
	for range 20000 {
		text := anyText(&d, pieces)
		if d.below(4) == 0 {
			text = string([]byte{byte(d.below(256)), byte(d.below(256)), byte(d.below(256))})
		}
		all, err := lex.Lex(text)
		f, is := err.(*api.Fault)
		switch {
		case err == nil && len(all) > 0 && all[len(all)-1].Kind == api.TokEnd:
		case is && len(all) == 0 && f.At >= 0 && f.At <= len(text):
		default:
			t.Fatalf("%q: %+v, %v", text, all, err)
		}
		if line := lex.Line(text, d.below(40)-3); line < 1 || line > 1+strings.Count(text, "\n") {
			t.Fatalf("%q: line %d", text, line)
		}
	}
}
