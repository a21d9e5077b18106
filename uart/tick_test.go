package uart_test

import (
	"math"
	"testing"

	"plover/api"
	"plover/fifo"
	"plover/uart"
)

// P12.3: the chapter's examples of Arrive and Tick.
func TestP123Examples(t *testing.T) {
	wantArrive(t, uart.Uart{}, 65, uart.Uart{Rx: queue(1, 65)}, false)
	wantArrive(t, uart.Uart{Ctl: 3}, 66, uart.Uart{Rx: queue(1, 66), Ctl: 3}, true)
	u := uart.Write(uart.Uart{Ctl: 3}, 3, 321)
	for n := range uint8(3) {
		wantTick(t, u, uart.Uart{Tx: queue(1, 65), Ctl: 3, Count: n + 1}, 0, false, false)
		u, _, _, _ = uart.Tick(u)
	}
	wantTick(t, u, uart.Uart{Ctl: 3}, 65, true, true)

	u = uart.Uart{}
	for range 9 {
		u, _ = uart.Arrive(u, 7)
	}
	wantPeek(t, u, 4, 5)
	_, u = uart.Read(u, 4)
	wantPeek(t, u, 4, 1)
}

// P12.3: what comes stands behind the bytes of Rx, as long as there are fewer than eight, and requests just if Ctl has the bit 1; what was lost stays so.
func TestP123Arrive(t *testing.T) {
	for ctl := range 256 {
		for n := range api.Fifo {
			for _, b := range []uint8{0, 1, 65, 127, 128, 255} {
				u := uart.Uart{Rx: upTo(n, 1), Tx: upTo(8, 1), Lost: n%2 == 1, Ctl: uint8(ctl), Count: uint8(ctl % 4)}
				want := u
				want.Rx.Bytes[n] = b
				want.Rx.Len = n + 1
				wantArrive(t, u, b, want, ctl%2 == 1)
				u.Lost, want.Lost = !u.Lost, !want.Lost
				wantArrive(t, u, b, want, ctl%2 == 1)
			}
		}
	}
	for b := range 256 {
		wantArrive(t, uart.Uart{Ctl: 1}, uint8(b), uart.Uart{Rx: queue(1, uint8(b)), Ctl: 1}, true)
		wantArrive(t, uart.Uart{Rx: upTo(7, 1), Ctl: 2}, uint8(b), uart.Uart{Rx: queue(8, 1, 2, 3, 4, 5, 6, 7, uint8(b)), Ctl: 2}, false)
	}
}

// P12.3: for what comes to eight bytes there is no room: it is lost, and requests nothing, whatever Ctl is.
func TestP123ArriveAtEight(t *testing.T) {
	for ctl := range 256 {
		for _, rx := range []fifo.Queue{upTo(8, 1), queue(8), queue(8, 255)} {
			for _, lost := range []bool{false, true} {
				u := uart.Uart{Rx: rx, Tx: upTo(2, 1), Lost: lost, Ctl: uint8(ctl), Count: 3}
				want := u
				want.Lost = true
				wantArrive(t, u, uint8(ctl), want, false)
			}
		}
		for _, n := range []int{9, 256, math.MaxInt} {
			wantArrive(t, uart.Uart{Rx: queue(n, 1, 2, 3), Ctl: uint8(ctl)}, 9, uart.Uart{Rx: queue(8, 1, 2, 3), Lost: true, Ctl: uint8(ctl)}, false)
		}
		for _, n := range []int{-1, -256, math.MinInt} {
			wantArrive(t, uart.Uart{Rx: queue(n, 1, 2, 3), Ctl: uint8(ctl)}, 9, uart.Uart{Rx: queue(1, 9), Ctl: uint8(ctl)}, ctl%2 == 1)
		}
	}
}

// P12.3: with nothing to send a tick changes nothing, and sends and requests nothing, whatever Ctl and Count are.
func TestP123TickOfNone(t *testing.T) {
	for ctl := range 256 {
		for _, lost := range []bool{false, true} {
			for _, rx := range []fifo.Queue{{}, upTo(1, 1), upTo(8, 1)} {
				u := uart.Uart{Rx: rx, Lost: lost, Ctl: uint8(ctl)}
				wantTick(t, u, u, 0, false, false)
				for _, count := range counts() {
					odd := u
					odd.Count = count
					wantTick(t, odd, u, 0, false, false)
					odd.Tx = queue(-1, 1, 2, 3)
					wantTick(t, odd, u, 0, false, false)
					odd.Tx = queue(0, 1, 2, 3)
					wantTick(t, odd, u, 0, false, false)
				}
			}
		}
	}
}

// P12.3: the first three ticks of a byte send nothing, each one counts; the fourth sends it: with one byte, and with more, for each Ctl.
func TestP123TickOfEachCount(t *testing.T) {
	for ctl := range 256 {
		for n := 1; n <= api.Fifo; n++ {
			for _, lost := range []bool{false, true} {
				u := uart.Uart{Rx: upTo(n, 30), Tx: upTo(n, 40), Lost: lost, Ctl: uint8(ctl)}
				for count := range uint8(3) {
					u.Count = count
					want := u
					want.Count = count + 1
					wantTick(t, u, want, 0, false, false)
				}
				u.Count = 3
				want := u
				want.Tx, want.Count = upTo(n-1, 41), 0
				wantTick(t, u, want, 40, true, n == 1 && ctl&2 == 2)
			}
		}
	}
}

// P12.3: a Count that may not be counts as 0, so a tick makes it 1.
func TestP123TickOfOddCounts(t *testing.T) {
	for count := 4; count < 256; count++ {
		for n := 1; n <= api.Fifo; n++ {
			wantTick(t, uart.Uart{Tx: upTo(n, 1), Ctl: 2, Count: uint8(count)}, uart.Uart{Tx: upTo(n, 1), Ctl: 2, Count: 1}, 0, false, false)
		}
	}
}

// P12.3: the last byte that is sent requests just with the bit 2, whatever byte it is, and whatever Rx has; one that is not the last does not.
func TestP123Last(t *testing.T) {
	for b := range 256 {
		for _, ctl := range []uint8{0, 1, 2, 3, 4, 6, 7, 253, 254, 255} {
			asks := ctl/2%2 == 1
			wantTick(t, uart.Uart{Tx: queue(1, uint8(b)), Ctl: ctl, Count: 3}, uart.Uart{Ctl: ctl}, uint8(b), true, asks)
			wantTick(t, uart.Uart{Rx: upTo(8, 1), Tx: queue(1, uint8(b)), Ctl: ctl, Count: 3}, uart.Uart{Rx: upTo(8, 1), Ctl: ctl}, uint8(b), true, asks)
			wantTick(t, uart.Uart{Tx: queue(2, uint8(b)), Ctl: ctl, Count: 3}, uart.Uart{Tx: queue(1), Ctl: ctl}, uint8(b), true, false)
			wantTick(t, uart.Uart{Tx: queue(1, uint8(b), 9, 9), Ctl: ctl, Count: 3}, uart.Uart{Ctl: ctl}, uint8(b), true, asks)
		}
	}
}

// P12.3: Arrive and Tick of all kinds of values, against the tests' own reckoning.
func TestP123OfAll(t *testing.T) {
	for i, u := range values() {
		wantArriveReckoned(t, u, uint8(i*37))
		wantTickReckoned(t, u)
	}
}
