package lex

import "sync"

// What a byte is: a set of these.
const (
	between  = 1 << iota // it stands between tokens
	letter               // or _
	digit                // to the base 10
	hexDigit             // to the base 16
	mark                 // a mark begins with it
)

// The table of what the bytes are; those behind it are nothing.
var (
	kindsMade sync.Once
	kinds     [128]uint8
)

// kindOf tells what a byte is.
func kindOf(b byte) uint8 {
	kindsMade.Do(makeKinds)
	if int(b) >= len(kinds) {
		return 0
	}
	return kinds[b]
}

func makeKinds() {
	addKind(between, " \t\n")
	addKind(letter, "abcdefghijklmnopqrstuvwxyzABCDEFGHIJKLMNOPQRSTUVWXYZ_")
	addKind(digit, "0123456789")
	addKind(hexDigit, "0123456789abcdefABCDEF")
	for _, m := range marks {
		addKind(mark, m[:1])
	}
}

func addKind(kind uint8, bytes string) {
	for i := range len(bytes) {
		kinds[bytes[i]] |= kind
	}
}
