package irq_test

import (
	"math"
	"testing"

	"plover/api"
	"plover/irq"
)

// This is the tests' own reckoning: sets of vectors as rows of eight truths, with the numbers of the chapter written out; the one that is to be taken is looked for from the last vector down.

// row is of each vector whether it is in a set.
type row [8]bool

// rowOf answers the row of a byte's bits.
func rowOf(b uint8) row {
	var r row
	for v, rest := 0, int(b); rest > 0; v, rest = v+1, rest/2 {
		r[v] = rest%2 == 1
	}
	return r
}

// bits answers the byte of a row.
func (r row) bits() uint8 {
	sum, worth := 0, 1
	for _, is := range r {
		if is {
			sum += worth
		}
		worth *= 2
	}
	return uint8(sum)
}

// with answers a row with all of another one, too.
func (r row) with(other row) row {
	for v := range r {
		r[v] = r[v] || other[v]
	}
	return r
}

// without answers a row with none of another one.
func (r row) without(other row) row {
	for v := range r {
		r[v] = r[v] && !other[v]
	}
	return r
}

// lowest answers the lowest byte of a number: what is left of it, as one from 0 on, by 256.
func lowest(v int32) uint8 {
	return uint8((int64(v)%256 + 256) % 256)
}

// shown answers what a register should show.
func shown(c irq.Irq, reg int) int32 {
	switch reg {
	case 12:
		return int32(c.Mask)
	case 13:
		return int32(c.Pend)
	}
	return 0
}

// requested answers the controller that should be there, once the vectors of these bits are requested.
func requested(c irq.Irq, bits uint8) irq.Irq {
	return irq.Irq{Mask: c.Mask, Pend: rowOf(c.Pend).with(rowOf(bits)).bits()}
}

// written answers the controller that should be there, once a register is written.
func written(c irq.Irq, reg int, v int32) irq.Irq {
	switch reg {
	case 12:
		return irq.Irq{Mask: lowest(v), Pend: c.Pend}
	case 13:
		return requested(c, lowest(v))
	case 14:
		return irq.Irq{Mask: c.Mask, Pend: rowOf(c.Pend).without(rowOf(lowest(v))).bits()}
	}
	return c
}

// taken answers the controller that should be there, once a vector is taken.
func taken(c irq.Irq, v int) irq.Irq {
	pend := rowOf(c.Pend)
	if v >= 0 && v <= 7 {
		pend[v] = false
	}
	return irq.Irq{Mask: c.Mask, Pend: pend.bits()}
}

// asked is all that is handed to Choose.
type asked struct {
	c               irq.Irq
	prios           [8]int
	level, critical int
	masked          uint8
}

// chosen answers the vector that should be taken; -1, if none should.
func (a asked) chosen() int {
	if a.critical > 0 {
		return -1
	}
	pend, allowed, masked := rowOf(a.c.Pend), rowOf(a.c.Mask), rowOf(a.masked)
	top := -1
	for v := 7; v >= 0; v-- {
		may := pend[v] && allowed[v] && !masked[v] && a.prios[v] > 0 && a.prios[v] > a.level
		if may && (top < 0 || a.prios[v] >= a.prios[top]) {
			top = v
		}
	}
	return top
}

// others are registers that are none of the controller's: of other devices, of none, at both ends, and such that become one of the controller's where bits are lost.
func others() []int {
	all := []int{math.MinInt, math.MinInt + 1, math.MinInt + 12, math.MinInt + 13, math.MinInt + 14, -1 << 40, -1<<32 + 12, -1<<32 + 13, -1<<32 + 14, -65536 + 13, -256 + 12, -256 + 13, -256 + 14, -14, -13, -12, -11, -4, -3, -2, -1, 28, 29, 30, 44, 45, 46, 64, 128, 255, 256, 256 + 12, 256 + 13, 256 + 14, 65536 + 13, 1 << 31, 1 << 32, 1<<32 + 12, 1<<32 + 13, 1<<32 + 14, 1 << 40, math.MaxInt - 1, math.MaxInt}
	for reg := range 12 {
		all = append(all, reg)
	}
	for reg := 15; reg < 28; reg++ {
		all = append(all, reg)
	}
	return all
}

// noVectors are numbers that are no vector's: below 0, 8 and above, both ends, and such that become a vector's where bits are lost.
func noVectors() []int {
	all := []int{math.MinInt, math.MinInt + 1, math.MinInt + 7, -1 << 40, -1 << 32, -1<<32 + 3, -1 << 31, -65536, -256, -255, -249, -128, -65, -64, -63, -16, 31, 32, 33, 63, 64, 65, 71, 127, 128, 255, 256, 257, 263, 65536, 65539, 1<<31 - 1, 1 << 31, 1<<32 - 1, 1 << 32, 1<<32 + 1, 1<<32 + 7, 1 << 40, math.MaxInt - 7, math.MaxInt - 1, math.MaxInt}
	for v := 1; v <= 9; v++ {
		all = append(all, -v, 7+v)
	}
	return all
}

// someValues are numbers that are written: bytes, those below 0 and from 256 on, both ends, and one bit of each kind.
func someValues() []int32 {
	all := []int32{math.MinInt32, math.MinInt32 + 1, math.MinInt32 + 255, math.MinInt32 + 256, -65537, -65536, -513, -512, -511, -257, -256, -255, -129, -128, -127, -2, -1, 256, 257, 261, 511, 512, 513, 32767, 32768, 65535, 65536, 65541, math.MaxInt32 - 255, math.MaxInt32 - 1, math.MaxInt32}
	for v := range int32(256) {
		all = append(all, v)
	}
	for n := 8; n < 31; n++ {
		all = append(all, 1<<n, 1<<n+0xa5)
	}
	return all
}

// sets are sets of vectors: none, all, each one alone, all but each one, and some of several.
func sets() []uint8 {
	all := []uint8{0, 255, 0x55, 0xaa, 0x0f, 0xf0, 0x81, 0x7e, 0x18}
	for v := range 8 {
		all = append(all, 1<<v, ^uint8(1<<v))
	}
	return all
}

// someControllers are controllers of which both fields are alike, or have nothing in common, or some of both.
func someControllers() []irq.Irq {
	return []irq.Irq{{}, {Mask: 255}, {Pend: 255}, {Mask: 255, Pend: 255}, {Mask: 1, Pend: 2}, {Mask: 0x55, Pend: 0xaa}, {Mask: 0x0f, Pend: 0x3c}, {Mask: 128, Pend: 128}, {Mask: 1, Pend: 1}, {Mask: 200, Pend: 100}, {Mask: 127, Pend: 129}}
}

// somePrios are priorities: ordinary ones, all alike, rising, falling, none's, and such as no handler has.
func somePrios() [][8]int {
	all := [][8]int{
		{},
		{0, 2, 0, 5, 5, 0, 0, 0},
		{1, 2, 3, 4, 5, 6, 7, 7},
		{7, 7, 6, 5, 4, 3, 2, 1},
		{3, 1, 4, 1, 5, 2, 6, 5},
		{7, 0, 7, 0, 7, 0, 7, 0},
		{0, 1, 0, 1, 0, 1, 0, 1},
		{0, 0, 0, 0, 0, 0, 0, 1},
		{7, 0, 0, 0, 0, 0, 0, 0},
		{-1, -7, -1 << 40, math.MinInt, 0, -2, -3, -4},
		{-1, 1, -7, 7, math.MinInt, math.MaxInt, 0, 1},
		{8, 9, 255, 256, 65536, 1 << 32, math.MaxInt - 1, math.MaxInt},
		{math.MaxInt, math.MaxInt - 1, 1 << 32, 65536, 256, 255, 9, 8},
		{math.MaxInt, math.MinInt, math.MaxInt, math.MinInt, 1, -1, 0, 7},
		{257, 1, 1<<32 + 2, 2, 1<<31 + 3, 3, 65540, 4},
	}
	for _, prio := range []int{math.MinInt, -1, 1, 2, 6, 7, 8, math.MaxInt} {
		all = append(all, [8]int{prio, prio, prio, prio, prio, prio, prio, prio})
	}
	return all
}

// levels are levels: each one of handlers, below and above these, and both ends.
func levels() []int {
	return []int{math.MinInt, math.MinInt + 1, -1 << 32, -8, -2, -1, 0, 1, 2, 3, 4, 5, 6, 7, 8, 9, 255, 256, 1 << 32, math.MaxInt - 1, math.MaxInt}
}

// dice makes numbers that look like chance, and are the same each time.
type dice uint64

// below answers a number from 0 on, below n.
func (d *dice) below(n int) int {
	*d = *d*6364136223846793005 + 1442695040888963407
	return int(uint64(*d) >> 33 % uint64(n))
}

// set answers any set.
func (d *dice) set() uint8 {
	return uint8(d.below(256))
}

// full answers a set that most vectors are in.
func (d *dice) full() uint8 {
	return d.set() | d.set() | d.set()
}

// prios answers any priorities: mostly those of handlers, of which few differ at times.
func (d *dice) prios() [8]int {
	var all [8]int
	odd, span := d.below(6) == 0, 1+d.below(8)
	for v := range all {
		all[v] = d.below(span + 1)
		if odd && d.below(3) == 0 {
			all[v] = (d.below(1<<31)<<32 + d.below(1<<31)*2) >> uint(d.below(64)) * (1 - 2*d.below(2))
		}
	}
	return all
}

// choice answers anything that is handed to Choose: critical is mostly 0 or below, and most vectors are there, allowed, and not masked.
func (d *dice) choice() asked {
	return asked{irq.Irq{Mask: d.full(), Pend: d.full()}, d.prios(), d.below(10) - 2, max(0, d.below(12)-9) - d.below(2), d.set() & d.set()}
}

func wantPeek(t *testing.T, c irq.Irq, reg int, want int32) {
	t.Helper()
	if got := irq.Peek(c, reg); got != want {
		t.Errorf("Peek(%v, %d): %d, want %d", c, reg, got, want)
	}
}

func wantWrite(t *testing.T, c irq.Irq, reg int, v int32, want irq.Irq) {
	t.Helper()
	if got := irq.Write(c, reg, v); got != want {
		t.Errorf("Write(%v, %d, %d): %v, want %v", c, reg, v, got, want)
	}
}

func wantRequest(t *testing.T, c irq.Irq, bits uint8, want irq.Irq) {
	t.Helper()
	if got := irq.Request(c, bits); got != want {
		t.Errorf("Request(%v, %d): %v, want %v", c, bits, got, want)
	}
}

func wantTaken(t *testing.T, c irq.Irq, v int, want irq.Irq) {
	t.Helper()
	if got := irq.Taken(c, v); got != want {
		t.Errorf("Taken(%v, %d): %v, want %v", c, v, got, want)
	}
}

// wantChoose holds a Choose against the vector that should be taken; -1, if none should: then it must not be true.
func wantChoose(t *testing.T, a asked, want int) {
	t.Helper()
	var prios [api.Vectors]int = a.prios
	if got, is := irq.Choose(a.c, prios, a.level, a.critical, a.masked); got != want || is != (want >= 0) {
		t.Errorf("Choose(%v, %v, %d, %d, %d): %d, %v, want %d", a.c, a.prios, a.level, a.critical, a.masked, got, is, want)
	}
}

// wantChooseReckoned holds a Choose against the reckoning.
func wantChooseReckoned(t *testing.T, a asked) {
	t.Helper()
	wantChoose(t, a, a.chosen())
}
