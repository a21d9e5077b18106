package uart_test

import (
	"math"
	"testing"

	"plover/api"
	"plover/fifo"
	"plover/uart"
)

// This is the tests' own reckoning: a uart as two rows of bytes, as slices, with the numbers of the chapter written out.

// plain is a uart in such a way.
type plain struct {
	rx, tx []uint8
	lost   bool
	ctl    uint8
	count  int
}

// counting answers the bytes of a queue's value that count.
func counting(q fifo.Queue) []uint8 {
	var all []uint8
	for i, b := range q.Bytes {
		if i < q.Len {
			all = append(all, b)
		}
	}
	return all
}

// reckoned answers what a value counts as.
func reckoned(u uart.Uart) plain {
	p := plain{rx: counting(u.Rx), tx: counting(u.Tx), lost: u.Lost, ctl: u.Ctl}
	if len(p.tx) > 0 && u.Count <= 3 {
		p.count = int(u.Count)
	}
	return p
}

// value answers the one value that it is.
func (p plain) value() uart.Uart {
	u := uart.Uart{Lost: p.lost, Ctl: p.ctl, Count: uint8(p.count)}
	u.Rx.Len, u.Tx.Len = copy(u.Rx.Bytes[:], p.rx), copy(u.Tx.Bytes[:], p.tx)
	return u
}

// read answers what a register shows, and what is there once it was read.
func (p plain) read(reg int) (int32, plain) {
	switch reg {
	case 3:
		if len(p.rx) == 0 {
			return 0, p
		}
		first := int32(p.rx[0])
		p.rx = p.rx[1:]
		return first, p
	case 4:
		var state int32
		for bit, is := range []bool{len(p.rx) != 0, len(p.tx) == 8, p.lost} {
			if is {
				state += []int32{1, 2, 4}[bit]
			}
		}
		p.lost = false
		return state, p
	case 5:
		return int32(p.ctl), p
	}
	return 0, p
}

// written answers what is there once a register is written.
func (p plain) written(reg int, v int32) plain {
	lowest := uint8((int64(v)%256 + 256) % 256)
	switch {
	case reg == 3 && len(p.tx) < 8:
		p.tx = append(p.tx[:len(p.tx):len(p.tx)], lowest)
	case reg == 5:
		p.ctl = lowest
	}
	return p
}

// arrived answers what is there once a byte has come, and whether it requests.
func (p plain) arrived(b uint8) (plain, bool) {
	if len(p.rx) == 8 {
		p.lost = true
		return p, false
	}
	p.rx = append(p.rx[:len(p.rx):len(p.rx)], b)
	return p, p.ctl%2 == 1
}

// ticked answers what is there one tick later, what is sent, whether something is, and whether it requests.
func (p plain) ticked() (plain, uint8, bool, bool) {
	if len(p.tx) == 0 {
		return p, 0, false, false
	}
	if p.count < 3 {
		p.count++
		return p, 0, false, false
	}
	first := p.tx[0]
	p.tx, p.count = p.tx[1:], 0
	return p, first, true, len(p.tx) == 0 && p.ctl/2%2 == 1
}

// queue answers a queue's value of a Len, with bytes at the first places, whether it is a queue or not.
func queue(n int, row ...uint8) fifo.Queue {
	q := fifo.Queue{Len: n}
	copy(q.Bytes[:], row)
	return q
}

// upTo answers the queue of the bytes from first on, n of them.
func upTo(n int, first uint8) fifo.Queue {
	q := fifo.Queue{Len: n}
	for i := range n {
		q.Bytes[i] = first + uint8(i)
	}
	return q
}

// queues are values of queues: right ones of each Len, and such that are none, up to both ends, and such that become one where bits are lost.
func queues() []fifo.Queue {
	var all []fifo.Queue
	for n := range api.Fifo + 1 {
		all = append(all, upTo(n, 1), queue(n))
	}
	for _, n := range []int{math.MinInt, math.MinInt + 3, -1 << 32, -256, -255, -8, -1, 0, 1, 2, 7, 8, 9, 10, 99, 255, 256, 259, 1 << 32, 1<<32 + 3, math.MaxInt - 1, math.MaxInt} {
		all = append(all, queue(n, 1, 2, 3, 4, 5, 6, 7, 8), queue(n, 0, 0, 0, 0, 255, 0, 0, 9), queue(n, 200))
	}
	return all
}

// counts are Counts that may be, and such that may not.
func counts() []uint8 {
	return []uint8{0, 1, 2, 3, 4, 5, 6, 7, 8, 127, 128, 131, 252, 254, 255}
}

// values are uarts, and values that are none: each two queues together, with each of the Counts, and with any Lost and Ctl.
func values() []uart.Uart {
	d := dice(1)
	var all []uart.Uart
	for _, rx := range queues() {
		for _, tx := range queues() {
			for _, count := range counts() {
				all = append(all, uart.Uart{Rx: rx, Tx: tx, Lost: d.below(2) == 0, Ctl: uint8(d.below(256)), Count: count})
			}
		}
	}
	return all
}

// someValues are a few of these.
func someValues() []uart.Uart {
	var all []uart.Uart
	for i, u := range values() {
		if i%97 == 0 {
			all = append(all, u)
		}
	}
	return all
}

// others are registers that are none of the uart's: of other devices, of none, at both ends, and such that become one of the uart's where bits are lost.
func others() []int {
	all := []int{math.MinInt, math.MinInt + 1, math.MinInt + 3, math.MinInt + 4, math.MinInt + 5, -1 << 40, -1<<32 + 3, -1<<32 + 4, -65536 + 5, -256, -253, -252, -251, -16, -13, -12, -11, 15, 16, 19, 20, 21, 64, 128, 255, 256, 259, 260, 261, 65539, 65540, 65541, 1 << 31, 1 << 32, 1<<32 + 3, 1<<32 + 4, 1<<32 + 5, 1 << 40, math.MaxInt - 1, math.MaxInt}
	for reg := -10; reg <= api.LastReg+10; reg++ {
		if reg < 3 || reg > 5 {
			all = append(all, reg)
		}
	}
	return all
}

// someNumbers are numbers that are written: all bytes, those below 0 and from 256 on, both ends, and one bit of each kind.
func someNumbers() []int32 {
	all := []int32{math.MinInt32, math.MinInt32 + 1, math.MinInt32 + 255, math.MinInt32 + 256, -65537, -65536, -513, -512, -511, -257, -256, -255, -129, -128, -127, -2, -1, 256, 257, 321, 511, 512, 513, 32767, 32768, 65535, 65536, 65601, math.MaxInt32 - 255, math.MaxInt32 - 1, math.MaxInt32}
	for v := range int32(256) {
		all = append(all, v)
	}
	for n := 8; n < 31; n++ {
		all = append(all, 1<<n, 1<<n+0xa5)
	}
	return all
}

// dice makes numbers that look like chance, and are the same each time.
type dice uint64

// below answers a number from 0 on, below n.
func (d *dice) below(n int) int {
	*d = *d*6364136223846793005 + 1442695040888963407
	return int(uint64(*d) >> 33 % uint64(n))
}

func wantMend(t *testing.T, u, want uart.Uart) {
	t.Helper()
	if got := uart.Mend(u); got != want {
		t.Errorf("Mend(%v): %v, want %v", u, got, want)
	}
}

// wantPeek holds Peek, and what Read answers beside the uart, against what the register should show.
func wantPeek(t *testing.T, u uart.Uart, reg int, want int32) {
	t.Helper()
	if got := uart.Peek(u, reg); got != want {
		t.Errorf("Peek(%v, %d): %d, want %d", u, reg, got, want)
	}
	if got, _ := uart.Read(u, reg); got != want {
		t.Errorf("Read(%v, %d): %d, want %d", u, reg, got, want)
	}
}

func wantRead(t *testing.T, u uart.Uart, reg int, want int32, wantAfter uart.Uart) {
	t.Helper()
	if got, after := uart.Read(u, reg); got != want || after != wantAfter {
		t.Errorf("Read(%v, %d): %d, %v, want %d, %v", u, reg, got, after, want, wantAfter)
	}
}

func wantWrite(t *testing.T, u uart.Uart, reg int, v int32, want uart.Uart) {
	t.Helper()
	if got := uart.Write(u, reg, v); got != want {
		t.Errorf("Write(%v, %d, %d): %v, want %v", u, reg, v, got, want)
	}
}

func wantArrive(t *testing.T, u uart.Uart, b uint8, want uart.Uart, wantAsks bool) {
	t.Helper()
	if got, asks := uart.Arrive(u, b); got != want || asks != wantAsks {
		t.Errorf("Arrive(%v, %d): %v, %v, want %v, %v", u, b, got, asks, want, wantAsks)
	}
}

func wantTick(t *testing.T, u, want uart.Uart, wantSent uint8, wantIs, wantAsks bool) {
	t.Helper()
	if got, sent, is, asks := uart.Tick(u); got != want || sent != wantSent || is != wantIs || asks != wantAsks {
		t.Errorf("Tick(%v): %v, %d, %v, %v, want %v, %d, %v, %v", u, got, sent, is, asks, want, wantSent, wantIs, wantAsks)
	}
}

// wantReadReckoned holds Peek and Read against the reckoning.
func wantReadReckoned(t *testing.T, u uart.Uart, reg int) {
	t.Helper()
	want, after := reckoned(u).read(reg)
	wantPeek(t, u, reg, want)
	wantRead(t, u, reg, want, after.value())
}

// wantWriteReckoned holds Write against the reckoning.
func wantWriteReckoned(t *testing.T, u uart.Uart, reg int, v int32) {
	t.Helper()
	wantWrite(t, u, reg, v, reckoned(u).written(reg, v).value())
}

// wantArriveReckoned holds Arrive against the reckoning.
func wantArriveReckoned(t *testing.T, u uart.Uart, b uint8) {
	t.Helper()
	after, asks := reckoned(u).arrived(b)
	wantArrive(t, u, b, after.value(), asks)
}

// wantTickReckoned holds Tick against the reckoning.
func wantTickReckoned(t *testing.T, u uart.Uart) {
	t.Helper()
	after, sent, is, asks := reckoned(u).ticked()
	wantTick(t, u, after.value(), sent, is, asks)
}
