package lex

import "sync"

// What a byte is: a set of these.
const (
	Between  = 1 << iota // it stands between tokens
	Letter               // or _
	Digit                // to the base 10
	HexDigit             // to the base 16
	Mark                 // a mark begins with it
)

// The table of what the bytes are, made when it is asked first; those behind it are nothing.
var (
	kindsMade sync.Once
	kinds     [128]uint8
)

// Kind tells what a byte is, by the table.
func Kind(b byte) uint8 {
	kindsMade.Do(makeKinds)
	if int(b) >= len(kinds) {
		return 0
	}
	return kinds[b]
}

func makeKinds() {
	for b := range len(kinds) {
		kinds[b] = kindOf(byte(b))
	}
}

// kindOf tells what a byte is. Tokens are told by it, not by the table: so they hang on nothing that is kept.
func kindOf(b byte) uint8 {
	switch {
	case b == ' ' || b == '\t' || b == '\n':
		return Between
	case b >= '0' && b <= '9':
		return Digit | HexDigit
	case b >= 'a' && b <= 'f' || b >= 'A' && b <= 'F':
		return Letter | HexDigit
	case b >= 'a' && b <= 'z' || b >= 'A' && b <= 'Z' || b == '_':
		return Letter
	case beginsMark(b):
		return Mark
	}
	return 0
}

// beginsMark tells whether a mark begins with the byte.
func beginsMark(b byte) bool {
	for _, m := range marks {
		if m[0] == b {
			return true
		}
	}
	return false
}
