package uart_test

import (
	"math"
	"testing"

	"plover/api"
	"plover/fifo"
	"plover/uart"
)

// P12.1: the chapter's first and last examples.
func TestP121Examples(t *testing.T) {
	wantArrive(t, uart.Uart{}, 65, uart.Uart{Rx: queue(1, 65)}, false)
	u, _ := uart.Arrive(uart.Uart{}, 65)
	wantPeek(t, u, 4, 1)
	wantRead(t, u, 3, 65, uart.Uart{})
	wantRead(t, uart.Uart{}, 3, 0, uart.Uart{})

	for b := range uint8(9) {
		u, _ = uart.Arrive(uart.Uart{Rx: u.Rx, Lost: u.Lost}, b)
	}
	full := queue(8, 65, 0, 1, 2, 3, 4, 5, 6)
	wantRead(t, u, 4, 5, uart.Uart{Rx: full})
	wantRead(t, uart.Uart{Rx: full}, 4, 1, uart.Uart{Rx: full})
}

// P12.1: the uart's registers are 3, 4 and 5, by these names.
func TestP121Numbers(t *testing.T) {
	u := uart.Uart{Rx: queue(1, 70), Ctl: 90}
	for _, r := range []struct {
		name, number int
		want         int32
	}{{api.UartData, 3, 70}, {api.UartStat, 4, 1}, {api.UartCtl, 5, 90}} {
		wantPeek(t, u, r.name, r.want)
		wantPeek(t, u, r.number, r.want)
	}
}

// P12.1: a right uart is mended of itself: Lost, Ctl, and a Count below four where a byte is sent, are all that may be.
func TestP121MendOfRight(t *testing.T) {
	for _, rx := range []fifo.Queue{{}, upTo(1, 0), upTo(7, 1), upTo(8, 1), queue(8)} {
		for ctl := range 256 {
			for _, lost := range []bool{false, true} {
				u := uart.Uart{Rx: rx, Lost: lost, Ctl: uint8(ctl)}
				wantMend(t, u, u)
				for n := 1; n <= api.Fifo; n++ {
					for count := range uint8(4) {
						u.Tx, u.Count = upTo(n, 9), count
						wantMend(t, u, u)
					}
				}
			}
		}
	}
}

// P12.1: a Count that may not be is 0: above 3, and any one where no byte is to be sent, also where there only seems to be one.
func TestP121MendOfCounts(t *testing.T) {
	for count := range 256 {
		kept := uint8(0)
		if count < 4 {
			kept = uint8(count)
		}
		for n := 1; n <= api.Fifo; n++ {
			wantMend(t, uart.Uart{Tx: upTo(n, 1), Count: uint8(count)}, uart.Uart{Tx: upTo(n, 1), Count: kept})
			wantMend(t, uart.Uart{Tx: queue(n), Count: uint8(count)}, uart.Uart{Tx: queue(n), Count: kept})
			wantMend(t, uart.Uart{Rx: upTo(n, 1), Count: uint8(count)}, uart.Uart{Rx: upTo(n, 1)})
		}
		for _, n := range []int{math.MinInt, -256, -1, 0} {
			wantMend(t, uart.Uart{Tx: queue(n, 1, 2, 3), Count: uint8(count)}, uart.Uart{})
		}
		for _, n := range []int{9, 256, math.MaxInt} {
			wantMend(t, uart.Uart{Tx: queue(n), Count: uint8(count)}, uart.Uart{Tx: queue(8), Count: kept})
		}
	}
}

// P12.1: both queues are mended, each by itself.
func TestP121MendOfQueues(t *testing.T) {
	u := uart.Uart{Lost: true, Ctl: 254, Count: 2}
	for _, r := range []struct{ q, want fifo.Queue }{
		{queue(-1, 1, 2, 3, 4, 5, 6, 7, 8), fifo.Queue{}},
		{queue(math.MinInt, 1, 2, 3), fifo.Queue{}},
		{queue(0, 1), fifo.Queue{}},
		{queue(2, 1, 2, 3), queue(2, 1, 2)},
		{queue(2, 1, 2, 0, 0, 0, 0, 0, 9), queue(2, 1, 2)},
		{queue(7, 1, 2, 3, 4, 5, 6, 7, 8), upTo(7, 1)},
		{queue(9, 1, 2, 3, 4, 5, 6, 7, 8), upTo(8, 1)},
		{queue(99, 1), queue(8, 1)},
		{queue(math.MaxInt), queue(8)},
	} {
		u.Rx, u.Tx = r.q, upTo(3, 50)
		want := u
		want.Rx = r.want
		wantMend(t, u, want)
		u.Rx, u.Tx = upTo(3, 50), r.q
		want = u
		if want.Tx = r.want; r.want.Len == 0 {
			want.Count = 0
		}
		wantMend(t, u, want)
	}
}

// P12.1: Mend of all kinds of values, against the tests' own reckoning; mended again it stays.
func TestP121MendOfAll(t *testing.T) {
	for _, u := range values() {
		want := reckoned(u).value()
		wantMend(t, u, want)
		wantMend(t, want, want)
	}
}

// P12.1: UartData shows the first byte of Rx, as it is, and Read takes that one alone; where there is none, 0, and nothing is taken.
func TestP121Data(t *testing.T) {
	for b := range 256 {
		for n := 1; n <= api.Fifo; n++ {
			rest := upTo(n-1, 100)
			u := uart.Uart{Rx: fifo.Of(append([]uint8{uint8(b)}, fifo.All(rest)...)), Tx: upTo(n, 1), Lost: n%2 == 0, Ctl: uint8(b), Count: uint8(n % 4)}
			want := u
			want.Rx = rest
			wantPeek(t, u, api.UartData, int32(b))
			wantRead(t, u, api.UartData, int32(b), want)
		}
		none := uart.Uart{Tx: upTo(8, uint8(b)), Lost: true, Ctl: uint8(b), Count: 3}
		wantPeek(t, none, api.UartData, 0)
		wantRead(t, none, api.UartData, 0, none)
		wantPeek(t, uart.Uart{Rx: queue(0, uint8(b))}, api.UartData, 0)
		wantRead(t, uart.Uart{Rx: queue(-1, uint8(b)), Tx: queue(-1), Count: 3}, api.UartData, 0, uart.Uart{})
	}
}

// P12.1: each of the bits of the state alone and together, for each number of bytes.
func TestP121State(t *testing.T) {
	for rx := range api.Fifo + 1 {
		for tx := range api.Fifo + 1 {
			for _, ctl := range []uint8{0, 1, 2, 3, 4, 255} {
				var want int32
				if rx > 0 {
					want = 1
				}
				if tx == 8 {
					want += 2
				}
				u := uart.Uart{Rx: upTo(rx, 0), Tx: upTo(tx, 0), Ctl: ctl}
				wantPeek(t, u, api.UartStat, want)
				wantRead(t, u, api.UartStat, want, u)
				lost := u
				lost.Lost = true
				wantPeek(t, lost, api.UartStat, want+4)
				wantRead(t, lost, api.UartStat, want+4, u)
			}
		}
	}
}

// P12.1: what is no queue counts for the state as what it is mended to.
func TestP121StateOfNone(t *testing.T) {
	row := []uint8{1, 2, 3, 4, 5, 6, 7, 8}
	for _, n := range []int{math.MinInt, -8, -1, 0} {
		wantPeek(t, uart.Uart{Rx: queue(n, row...)}, api.UartStat, 0)
		wantPeek(t, uart.Uart{Tx: queue(n, row...), Count: 3}, api.UartStat, 0)
	}
	for _, n := range []int{8, 9, 256, math.MaxInt} {
		wantPeek(t, uart.Uart{Rx: queue(n)}, api.UartStat, 1)
		wantPeek(t, uart.Uart{Tx: queue(n)}, api.UartStat, 2)
		wantPeek(t, uart.Uart{Rx: queue(n, row...), Tx: queue(n, row...), Lost: true}, api.UartStat, 7)
	}
	wantPeek(t, uart.Uart{Tx: queue(7, row...)}, api.UartStat, 0)
}

// P12.1: read twice, the state tells but once that a byte was lost; read of another register, or only looked at, it still does.
func TestP121StateTwice(t *testing.T) {
	for _, u := range someValues() {
		u.Lost = true
		first, once := uart.Read(u, api.UartStat)
		second, twice := uart.Read(once, api.UartStat)
		if first != second+4 || twice != once || once.Lost {
			t.Errorf("%v: the state is %d, then %d, of %v, then %v", u, first, second, once, twice)
		}
		for _, reg := range append(others(), api.UartCtl, api.UartData) {
			uart.Peek(u, api.UartStat)
			if _, after := uart.Read(u, reg); !after.Lost || uart.Peek(after, api.UartStat)&4 != 4 {
				t.Errorf("Read(%v, %d): what was lost is not there any more: %v", u, reg, after)
			}
		}
	}
}

// P12.1: UartCtl shows each byte as it is, with all bits, and Read leaves it.
func TestP121Ctl(t *testing.T) {
	for ctl := range 256 {
		for _, u := range []uart.Uart{{}, {Rx: upTo(8, 1), Tx: upTo(8, 1), Lost: true, Count: 3}, {Tx: upTo(1, 0), Count: 1}} {
			u.Ctl = uint8(ctl)
			wantPeek(t, u, api.UartCtl, int32(ctl))
			wantRead(t, u, api.UartCtl, int32(ctl), u)
		}
	}
}

// P12.1: registers that are none of the uart's show 0, and Read of them answers the same uart, mended.
func TestP121OtherRegisters(t *testing.T) {
	full := uart.Uart{Rx: upTo(8, 1), Tx: upTo(8, 1), Lost: true, Ctl: 255, Count: 3}
	for _, reg := range others() {
		wantPeek(t, full, reg, 0)
		wantRead(t, full, reg, 0, full)
		wantRead(t, uart.Uart{}, reg, 0, uart.Uart{})
		for _, u := range someValues() {
			wantPeek(t, u, reg, 0)
			wantRead(t, u, reg, 0, reckoned(u).value())
		}
	}
	for _, reg := range []int{-1, api.LastReg, api.LastReg + 1, math.MinInt, math.MaxInt} {
		wantPeek(t, full, reg, 0)
		wantRead(t, full, reg, 0, full)
	}
}

// P12.1: Peek and Read of all kinds of values, against the tests' own reckoning.
func TestP121ReadOfAll(t *testing.T) {
	for _, u := range values() {
		for _, reg := range []int{2, 3, 4, 5, 6} {
			wantReadReckoned(t, u, reg)
		}
	}
}

// P12.2: the chapter's examples of Write.
func TestP122Examples(t *testing.T) {
	u := uart.Write(uart.Uart{}, api.UartCtl, 3)
	wantArrive(t, u, 66, uart.Uart{Rx: queue(1, 66), Ctl: 3}, true)
	wantWrite(t, u, 3, 321, uart.Uart{Tx: queue(1, 65), Ctl: 3})
}

// P12.2: what is written to UartData stands behind the bytes that are to be sent, as long as there are fewer than eight; the one that is being sent goes on.
func TestP122Data(t *testing.T) {
	for n := range api.Fifo {
		for b := range 256 {
			u := uart.Uart{Rx: upTo(n, 3), Tx: upTo(n, 1), Lost: b%2 == 0, Ctl: uint8(b)}
			if n > 0 {
				u.Count = uint8(b % 4)
			}
			want := u
			want.Tx.Bytes[n] = uint8(b)
			want.Tx.Len = n + 1
			wantWrite(t, u, api.UartData, int32(b), want)
		}
	}
	for _, v := range someNumbers() {
		wantWriteReckoned(t, uart.Uart{Tx: upTo(7, 1), Count: 2}, api.UartData, v)
		full := uart.Uart{Tx: upTo(8, 1), Count: 2}
		wantWrite(t, full, api.UartData, v, full)
		full = uart.Uart{Rx: upTo(8, 1), Tx: queue(8), Lost: true, Ctl: 255, Count: 3}
		wantWrite(t, full, api.UartData, v, full)
		wantWrite(t, uart.Uart{Tx: queue(9), Count: 4}, api.UartData, v, uart.Uart{Tx: queue(8)})
	}
}

// P12.2: of a value its lowest byte is written, also of one below 0, of 256 and more, of the least and the greatest.
func TestP122Lowest(t *testing.T) {
	for _, r := range []struct {
		v    int32
		want uint8
	}{
		{0, 0}, {1, 1}, {127, 127}, {128, 128}, {255, 255},
		{256, 0}, {257, 1}, {321, 65}, {511, 255}, {512, 0}, {65535, 255}, {65536, 0}, {65601, 65},
		{-1, 255}, {-2, 254}, {-128, 128}, {-129, 127}, {-255, 1}, {-256, 0}, {-257, 255},
		{math.MaxInt32, 255}, {math.MaxInt32 - 1, 254}, {math.MaxInt32 - 255, 0}, {math.MinInt32, 0}, {math.MinInt32 + 1, 1},
	} {
		wantWrite(t, uart.Uart{}, api.UartData, r.v, uart.Uart{Tx: queue(1, r.want)})
		wantWrite(t, uart.Uart{Tx: queue(1, 7), Count: 1}, api.UartData, r.v, uart.Uart{Tx: queue(2, 7, r.want), Count: 1})
		wantWrite(t, uart.Uart{}, api.UartCtl, r.v, uart.Uart{Ctl: r.want})
		wantWrite(t, uart.Uart{Tx: queue(1, 7), Ctl: 0xa5, Count: 1}, api.UartCtl, r.v, uart.Uart{Tx: queue(1, 7), Ctl: r.want, Count: 1})
	}
}

// P12.2: each Ctl is written whole, whatever was there; nothing else becomes another one.
func TestP122Ctl(t *testing.T) {
	for was := range 256 {
		for is := range int32(256) {
			u := uart.Uart{Rx: upTo(8, 1), Tx: upTo(8, 1), Lost: true, Ctl: uint8(was), Count: 3}
			want := u
			want.Ctl = uint8(is)
			wantWrite(t, u, api.UartCtl, is, want)
			wantPeek(t, want, api.UartCtl, is)
		}
	}
}

// P12.2: the state can't be written, nor can a register that is none of the uart's: the same uart, mended.
func TestP122OtherRegisters(t *testing.T) {
	for _, u := range append(someValues(), uart.Uart{}, uart.Uart{Rx: upTo(8, 1), Tx: upTo(8, 1), Lost: true, Ctl: 255, Count: 3}) {
		want := reckoned(u).value()
		for _, v := range []int32{0, 1, 4, 7, 255, 256, -1, math.MinInt32, math.MaxInt32} {
			wantWrite(t, u, api.UartStat, v, want)
		}
		for _, reg := range append(others(), -1, api.LastReg, api.LastReg+1, math.MinInt, math.MaxInt) {
			wantWrite(t, u, reg, -1, want)
		}
	}
}

// P12.2: Write of all kinds of values, against the tests' own reckoning.
func TestP122WriteOfAll(t *testing.T) {
	d := dice(2)
	numbers := someNumbers()
	for _, u := range values() {
		for _, reg := range []int{2, 3, 4, 5, 6} {
			wantWriteReckoned(t, u, reg, numbers[d.below(len(numbers))])
		}
	}
}
