// Package wire is layer 1: it lays numbers, truths and texts as bytes, in one way, and reads rows of them, till something is wrong. See shared/doc/01-wire.md.
package wire

import (
	"strings"

	"plover/api"
)

// How many bytes a number may have: each time twice as many.
const (
	oneByte = 1 << iota
	twoBytes
	fourBytes
	eightBytes
)

// sizes tells how many bytes a number has by the two highest bits of the first one.
var sizes = [4]int{oneByte, twoBytes, fourBytes, eightBytes}

// laidBits are the bits of a number that are laid.
const laidBits = 1<<62 - 1

// In is a row of bytes that is read, the place in it, and what was wrong first.
type In struct {
	bytes string
	place int
	fault error
}

// P answers b with the bytes of the number n (of its lowest 62 bits) behind it.
func P(b []byte, n uint64) []byte {
	n &= laidBits
	class := classOf(n)
	size := sizes[class]
	n |= uint64(class) << (8*size - 2)
	var row [eightBytes]byte
	for i := range row {
		row[i] = byte(n >> (8 * (eightBytes - 1 - i)))
	}
	return behind(b, row[eightBytes-size:]...)
}

// PI answers b with the bytes of the whole number n behind it.
func PI(b []byte, n int64) []byte {
	// All bits are turned below 0: -2n - 1 is what 2n becomes by that.
	return P(b, uint64(n)<<1^uint64(n>>63))
}

// PT answers b with the byte of a truth behind it.
func PT(b []byte, is bool) []byte {
	if is {
		return behind(b, 1)
	}
	return behind(b, 0)
}

// PS answers b with the bytes of a text behind it.
func PS(b []byte, s string) []byte {
	return append(P(b, uint64(len(s))), s...)
}

// behind cuts b's room off first: it is the caller's, and may hold more of his.
func behind(b []byte, more ...byte) []byte {
	return append(b[:len(b):len(b)], more...)
}

// classOf tells which of the sizes is the least that n fits into.
func classOf(n uint64) int {
	class := 0
	for class < len(sizes)-1 && n>>(8*sizes[class]-2) != 0 {
		class++
	}
	return class
}

// New answers an in of the bytes of s, at the first of them.
func New(s string) *In {
	return &In{bytes: s}
}

// U reads a number.
func (in *In) U() uint64 {
	if in.stopped() {
		return 0
	}
	n, size, code := in.number()
	if !in.take(size, code) {
		return 0
	}
	return n
}

// I reads a whole number.
func (in *In) I() int64 {
	n := in.U()
	return int64(n>>1) ^ -int64(n&1)
}

// B reads a byte.
func (in *In) B() byte {
	if in.stopped() {
		return 0
	}
	b, code := in.first()
	if !in.take(1, code) {
		return 0
	}
	return b
}

// T reads a truth.
func (in *In) T() bool {
	if in.stopped() {
		return false
	}
	b, code := in.first()
	if b > 1 {
		code = api.ErrForm
	}
	return in.take(1, code) && b == 1
}

// S reads a text of at most so many bytes.
func (in *In) S(most int) string {
	if in.stopped() {
		return ""
	}
	n, size, code := in.numberUpTo(most)
	if code == api.OK && n > uint64(in.Left()-size) {
		code = api.ErrShort
	}
	if !in.take(size, code) {
		return ""
	}
	from := in.place
	in.place += int(n)
	// A copy, so that a short text does not keep the whole row alive.
	return strings.Clone(in.bytes[from:in.place])
}

// Many reads a number of things that follow, which is at most so great.
func (in *In) Many(most int) int {
	if in.stopped() {
		return 0
	}
	n, size, code := in.numberUpTo(most)
	if !in.take(size, code) {
		return 0
	}
	return int(n)
}

// Place tells how many bytes were read.
func (in *In) Place() int {
	if in == nil {
		return 0
	}
	return in.place
}

// Left tells how many bytes are left.
func (in *In) Left() int {
	if in == nil {
		return 0
	}
	return len(in.bytes) - in.place
}

// Fail gives the in a fault, if it has none.
func (in *In) Fail(code api.Errno, at int) {
	if in.stopped() || code == api.OK {
		return
	}
	in.fault = &api.Fault{Code: code, At: at}
}

// Err answers the fault, or nil.
func (in *In) Err() error {
	if in == nil {
		return &api.Fault{Code: api.ErrNil}
	}
	return copyOf(in.fault)
}

// End answers the fault, or that bytes are left, or nil.
func (in *In) End() error {
	if err := in.Err(); err != nil {
		return err
	}
	if in.Left() > 0 {
		return &api.Fault{Code: api.ErrLong, At: in.place}
	}
	return nil
}

// stopped tells whether nothing is read any more.
func (in *In) stopped() bool {
	return in == nil || in.fault != nil
}

// take goes behind size bytes; or else has the fault of that code, where it is, and answers false.
func (in *In) take(size int, code api.Errno) bool {
	if code != api.OK {
		in.Fail(code, in.place)
		return false
	}
	in.place += size
	return true
}

// first looks at the byte at the place, and tells what is wrong with it.
func (in *In) first() (byte, api.Errno) {
	if in.Left() == 0 {
		return 0, api.ErrShort
	}
	return in.bytes[in.place], api.OK
}

// number looks at the number at the place, and tells how many bytes it has, and what is wrong with it.
func (in *In) number() (n uint64, size int, code api.Errno) {
	b, code := in.first()
	if code != api.OK {
		return 0, 0, code
	}
	class := int(b >> 6)
	size = sizes[class]
	if in.Left() < size {
		return 0, 0, api.ErrShort
	}
	n = uint64(b & 63)
	for i := in.place + 1; i < in.place+size; i++ {
		n = n<<8 | uint64(in.bytes[i])
	}
	if class > classOf(n) {
		return 0, 0, api.ErrForm
	}
	return n, size, api.OK
}

// numberUpTo is number, but wrong is a number above most, too; any is above a most below 0.
func (in *In) numberUpTo(most int) (n uint64, size int, code api.Errno) {
	n, size, code = in.number()
	if code == api.OK && (most < 0 || n > uint64(most)) {
		return 0, 0, api.ErrLong
	}
	return n, size, code
}

// copyOf makes a fault anew: what its asker does with it changes nothing in the in.
func copyOf(fault error) error {
	if f, is := fault.(*api.Fault); is {
		return &api.Fault{Code: f.Code, At: f.At}
	}
	return nil
}
