package uart_test

import (
	"bytes"
	"testing"

	"plover/api"
	"plover/fifo"
	"plover/uart"
)

// P12.4: any walks, from any value on, against the tests' own reckoning; all that is answered is right.
func TestP124AnyWalks(t *testing.T) {
	d := dice(3)
	starts := values()
	regs := []int{3, 3, 3, 4, 5, 2, 6, -1}
	for range 3000 {
		u := starts[d.below(len(starts))]
		bent := 1 + d.below(8) // some walks fill the queues, some drain them
		for range 80 {
			b, reg := d.below(256), regs[d.below(len(regs))]
			switch n := d.below(10); {
			case n < bent && b%2 == 0:
				wantArriveReckoned(t, u, uint8(b))
				u, _ = uart.Arrive(u, uint8(b))
			case n < bent:
				wantWriteReckoned(t, u, reg, int32(b-99)<<(b%20))
				u = uart.Write(u, reg, int32(b-99)<<(b%20))
			case b%3 == 0:
				wantReadReckoned(t, u, reg)
				_, u = uart.Read(u, reg)
			default:
				wantTickReckoned(t, u)
				u, _, _, _ = uart.Tick(u)
			}
			wantMend(t, u, u)
		}
	}
}

// book is a uart, and what came to it, and what left it: what is due is told by these alone.
type book struct {
	u             uart.Uart
	came, read    []uint8 // those that were lost are not among them
	written, sent []uint8 // those for which there was no room are not among them
	lost, ticks   int
}

// arrive lets a byte come: it is lost, if eight that came were not read yet.
func (k *book) arrive(b uint8) {
	if len(k.came)-len(k.read) == 8 {
		k.lost++
	} else {
		k.came = append(k.came, b)
	}
	k.u, _ = uart.Arrive(k.u, b)
}

// write writes a byte: it is not taken, if eight that were written were not sent yet.
func (k *book) write(b uint8) {
	if len(k.written)-len(k.sent) < 8 {
		k.written = append(k.written, b)
	}
	k.u = uart.Write(k.u, api.UartData, int32(b))
}

// take reads a byte, if there must be one.
func (k *book) take() {
	if len(k.came) == len(k.read) {
		return
	}
	v, after := uart.Read(k.u, api.UartData)
	k.read, k.u = append(k.read, uint8(v)), after
}

// tick ticks once: a byte must be sent just by each fourth tick at which there is one.
func (k *book) tick(t *testing.T) {
	t.Helper()
	if len(k.written) > len(k.sent) {
		k.ticks++
	}
	want := k.ticks == 4
	after, b, is, _ := uart.Tick(k.u)
	if is != want || !is && b != 0 {
		t.Errorf("Tick(%v), the %d. one of a byte: %d, %v", k.u, k.ticks, b, is)
	}
	if want {
		k.sent, k.ticks = append(k.sent, b), 0
	}
	k.u = after
}

// P12.4: of long rows of bytes, all that were not lost are read, and all that were taken are sent, in order, each once, one each four ticks.
func TestP124LongRows(t *testing.T) {
	d := dice(4)
	for bent := range 6 {
		var k book
		for range 20000 {
			switch d.below(8 + bent) {
			case 0:
				k.arrive(uint8(d.below(256)))
			case 1:
				k.write(uint8(d.below(256)))
			case 2:
				k.take()
			case 3:
				_, k.u = uart.Read(k.u, api.UartStat)
			case 4:
				k.u = uart.Write(k.u, api.UartCtl, int32(d.below(256)))
			default:
				k.tick(t)
			}
		}
		for range 8 {
			k.take()
		}
		for range 4 * 8 {
			k.tick(t)
		}
		if !bytes.Equal(k.came, k.read) || len(k.read) < 500 || k.lost < 50 {
			t.Errorf("%d bytes came, and %d that were lost; %d were read, or others", len(k.came), k.lost, len(k.read))
		}
		if !bytes.Equal(k.written, k.sent) || len(k.sent) < 500 {
			t.Errorf("%d bytes were written, %d sent, or others", len(k.written), len(k.sent))
		}
		if k.u.Rx != (fifo.Queue{}) || k.u.Tx != (fifo.Queue{}) || k.u.Count != 0 {
			t.Errorf("something is left: %v", k.u)
		}
	}
}

// P12.4: each number of bytes is read in the order in which they came, each once; then there is none.
func TestP124ReadInOrder(t *testing.T) {
	for n := range 20 {
		u := uart.Uart{Ctl: 1}
		for i := range n {
			before := u
			var asks bool
			u, asks = uart.Arrive(u, uint8(10+i))
			if asks != (i < 8) || u.Lost != (i >= 8) {
				t.Errorf("Arrive(%v): %v, %v", before, u, asks)
			}
		}
		for i := range min(n, 8) {
			wantPeek(t, u, api.UartData, int32(10+i))
			_, u = uart.Read(u, api.UartData)
		}
		wantRead(t, u, api.UartData, 0, uart.Uart{Ctl: 1, Lost: n > 8})
	}
}

// P12.4: a byte for which there was no room is not read later, and one that comes when there is room again is.
func TestP124Lost(t *testing.T) {
	u := uart.Uart{Rx: upTo(8, 1)}
	u, _ = uart.Arrive(u, 99)
	_, u = uart.Read(u, api.UartData)
	u, _ = uart.Arrive(u, 77)
	wantMend(t, u, uart.Uart{Rx: queue(8, 2, 3, 4, 5, 6, 7, 8, 77), Lost: true})
	for _, want := range []int32{2, 3, 4, 5, 6, 7, 8, 77} {
		wantPeek(t, u, api.UartData, want)
		_, u = uart.Read(u, api.UartData)
	}
	wantPeek(t, u, api.UartData, 0)
	wantPeek(t, u, api.UartStat, 4)
}

// P12.4: each number of bytes, also of 0, is sent in the order in which they were written: at the ticks 4, 8, 12 and so on; only the last one requests; then there is none.
func TestP124SentInOrder(t *testing.T) {
	for n := range 12 {
		for _, first := range []uint8{0, 1, 250} {
			u := uart.Uart{Ctl: 2}
			for i := range n {
				u = uart.Write(u, api.UartData, int32(first)+int32(i))
			}
			taken := min(n, 8)
			for tick := 1; tick <= 60; tick++ {
				after, b, is, asks := uart.Tick(u)
				wantIs := tick%4 == 0 && tick/4 <= taken
				if is != wantIs || asks != (wantIs && tick/4 == taken) || is && b != first+uint8(tick/4-1) || !is && b != 0 {
					t.Errorf("%d bytes from %d on: the %d. tick, of %v: %d, %v, %v", n, first, tick, u, b, is, asks)
				}
				u = after
			}
			wantMend(t, u, uart.Uart{Ctl: 2})
		}
	}
}

// P12.4: what is written while a byte is being sent does not hold it up, nor does what is written as it is sent take a tick of its own from the byte behind it.
func TestP124WrittenBetween(t *testing.T) {
	for at := range 12 {
		u := uart.Write(uart.Uart{Ctl: 2}, api.UartData, 50)
		var sent []int
		for tick := 1; tick <= 24; tick++ {
			if tick-1 == at {
				u = uart.Write(u, api.UartData, 51)
			}
			after, b, is, asks := uart.Tick(u)
			if is {
				sent = append(sent, tick)
			}
			if is && (int(b) != 49+len(sent) || asks != (len(sent) == 2 || at >= 4)) {
				t.Errorf("written behind %d ticks: %d sent at %d, %v", at, b, tick, asks)
			}
			u = after
		}
		// Behind the first four ticks there is nothing to send till the second byte is written.
		if want := 4 + max(4, at); len(sent) != 2 || sent[0] != 4 || sent[1] != want {
			t.Errorf("written behind %d ticks: sent at %v, want 4 and %d", at, sent, want)
		}
	}
}

// P12.4: what is received and what is sent have nothing to do with each other: with the one, and without it, the other is the same.
func TestP124Apart(t *testing.T) {
	d := dice(5)
	for range 300 {
		var both, in, out uart.Uart
		for range 200 {
			b := uint8(d.below(256))
			switch d.below(6) {
			case 0, 1:
				var asks, wantAsks bool
				both, asks = uart.Arrive(both, b)
				in, wantAsks = uart.Arrive(in, b)
				if asks != wantAsks {
					t.Errorf("Arrive asks %v, alone %v", asks, wantAsks)
				}
			case 2:
				v, after := uart.Read(both, api.UartData)
				want, alone := uart.Read(in, api.UartData)
				if v != want {
					t.Errorf("Read of UartData: %d, alone %d", v, want)
				}
				both, in = after, alone
			case 3:
				both, out = uart.Write(both, api.UartData, int32(b)), uart.Write(out, api.UartData, int32(b))
			case 4:
				ctl := int32(b)
				both, in, out = uart.Write(both, api.UartCtl, ctl), uart.Write(in, api.UartCtl, ctl), uart.Write(out, api.UartCtl, ctl)
			default:
				after, sent, is, asks := uart.Tick(both)
				alone, wantSent, wantIs, wantAsks := uart.Tick(out)
				if sent != wantSent || is != wantIs || asks != wantAsks {
					t.Errorf("Tick: %d, %v, %v, alone %d, %v, %v", sent, is, asks, wantSent, wantIs, wantAsks)
				}
				both, out = after, alone
			}
			if both.Rx != in.Rx || both.Lost != in.Lost || both.Tx != out.Tx || both.Count != out.Count {
				t.Errorf("%v, alone %v and %v", both, in, out)
			}
		}
	}
}

// P12.4: ticks, and what is written, leave what was received; what comes, and what is read, leaves what is to be sent, of each value.
func TestP124ApartInAll(t *testing.T) {
	for i, u := range values() {
		if i%5 != 0 {
			continue
		}
		was := uart.Mend(u)
		ticked, _, _, _ := uart.Tick(u)
		for _, after := range []uart.Uart{ticked, uart.Write(u, api.UartData, int32(i)), uart.Write(u, api.UartCtl, int32(i))} {
			if after.Rx != was.Rx || after.Lost != was.Lost {
				t.Errorf("%v: what was received became that of %v", u, after)
			}
		}
		arrived, _ := uart.Arrive(u, uint8(i))
		_, read := uart.Read(u, api.UartData)
		_, looked := uart.Read(u, api.UartStat)
		for _, after := range []uart.Uart{arrived, read, looked} {
			if after.Tx != was.Tx || after.Count != was.Count || after.Ctl != was.Ctl {
				t.Errorf("%v: what is to be sent became that of %v", u, after)
			}
		}
	}
}
