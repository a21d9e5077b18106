package fifo_test

import (
	"bytes"
	"math"
	"slices"
	"testing"

	"plover/api"
	"plover/fifo"
)

// oneToEight are eight bytes, each of them another one.
func oneToEight() []uint8 {
	return []uint8{1, 2, 3, 4, 5, 6, 7, 8}
}

// P10.1: the chapter's examples of Mend.
func TestP101Examples(t *testing.T) {
	wantMend(t, value(2, 1, 2, 3), value(2, 1, 2))
	wantMend(t, value(99, oneToEight()...), value(8, oneToEight()...))
	wantMend(t, value(-1, oneToEight()...), fifo.Queue{})
}

// P10.1: queues stay, and are right; values that are none become the queues as which they count, and are not.
func TestP101MendRows(t *testing.T) {
	for _, r := range []struct {
		q, want fifo.Queue
		right   bool
	}{
		{value(0), value(0), true},
		{value(1, 5), value(1, 5), true},
		{value(1), value(1), true},
		{value(3, 0, 0, 9), value(3, 0, 0, 9), true},
		{value(7, 1, 2, 3, 4, 5, 6, 7), value(7, 1, 2, 3, 4, 5, 6, 7), true},
		{value(8, oneToEight()...), value(8, oneToEight()...), true},
		{value(8), value(8), true},
		{value(0, 5), value(0), false},
		{value(0, 0, 0, 0, 0, 0, 0, 0, 5), value(0), false},
		{value(1, 5, 6), value(1, 5), false},
		{value(1, 0, 6), value(1), false},
		{value(7, oneToEight()...), value(7, 1, 2, 3, 4, 5, 6, 7), false},
		{value(7, 0, 0, 0, 0, 0, 0, 0, 255), value(7), false},
		{value(-1), value(0), false},
		{value(-1, 5), value(0), false},
		{value(math.MinInt), value(0), false},
		{value(math.MinInt, oneToEight()...), value(0), false},
		{value(9), value(8), false},
		{value(9, 5), value(8, 5), false},
		{value(9, oneToEight()...), value(8, oneToEight()...), false},
		{value(math.MaxInt), value(8), false},
		{value(math.MaxInt, oneToEight()...), value(8, oneToEight()...), false},
	} {
		wantMend(t, r.q, r.want)
		wantRight(t, r.q, r.right)
		wantAll(t, r.q, r.want.Bytes[:r.want.Len])
	}
}

// P10.1: Mend, Right and All of all kinds of values, against the tests' own reckoning.
func TestP101Values(t *testing.T) {
	for _, q := range values() {
		all := counting(q)
		wantMend(t, q, laid(all))
		wantRight(t, q, q == laid(all))
		wantAll(t, q, all)
	}
}

// P10.1: one byte behind the end that is not 0, at any place, and a queue is none.
func TestP101BytesBehind(t *testing.T) {
	for n := range api.Fifo {
		for at := n; at < api.Fifo; at++ {
			for b := 1; b < 256; b++ {
				q := value(n, bytes.Repeat([]uint8{3}, n)...)
				want := q
				wantRight(t, q, true)
				q.Bytes[at] = uint8(b)
				wantRight(t, q, false)
				wantMend(t, q, want)
			}
		}
	}
}

// P10.1: Of no bytes, of some, of eight, of nine, of many.
func TestP101Of(t *testing.T) {
	wantOf(t, nil, fifo.Queue{})
	wantOf(t, []uint8{}, fifo.Queue{})
	wantOf(t, []uint8{7}, value(1, 7))
	wantOf(t, []uint8{0}, value(1))
	wantOf(t, []uint8{0, 0, 4, 0}, value(4, 0, 0, 4))
	wantOf(t, oneToEight()[:7], value(7, 1, 2, 3, 4, 5, 6, 7))
	wantOf(t, oneToEight(), value(8, oneToEight()...))
	wantOf(t, append(oneToEight(), 9), value(8, oneToEight()...))
	wantOf(t, make([]uint8, 8), value(8))
	wantOf(t, make([]uint8, 9), value(8))
	wantOf(t, append(make([]uint8, 8), 1), value(8))
	wantOf(t, append(oneToEight(), bytes.Repeat([]uint8{255}, 100000)...), value(8, oneToEight()...))
	d := dice(1)
	for range 3000 {
		row := d.row(d.below(20))
		q := laid(row[:min(len(row), api.Fifo)])
		wantOf(t, row, q)
		wantRight(t, fifo.Of(row), true)
		wantAll(t, q, row[:q.Len])
	}
}

// P10.1: what Of was handed is not changed, nor its room, and what its owner does with it changes no queue.
func TestP101OfSharesNothing(t *testing.T) {
	for n := range 20 {
		whole := bytes.Repeat([]uint8{0xee}, 40)
		row := whole[:n]
		q := fifo.Of(row)
		kept := q
		if q, is := fifo.Push(q, 5); is {
			fifo.Pop(q)
		}
		if !bytes.Equal(whole, bytes.Repeat([]uint8{0xee}, 40)) {
			t.Errorf("Of %d bytes: they, or their room, became %v", n, whole)
		}
		clear(whole)
		if q != kept {
			t.Errorf("Of %d bytes, which were changed: the queue became %v", n, q)
		}
		wantAll(t, q, bytes.Repeat([]uint8{0xee}, min(n, api.Fifo)))
	}
}

// P10.1: what All answers is the caller's: to change it, and its room, changes neither the queue nor another answer.
func TestP101AllSharesNothing(t *testing.T) {
	for _, q := range []fifo.Queue{{}, value(1, 7), value(3, 1, 2, 3), value(7, oneToEight()...), value(8, oneToEight()...), value(99, oneToEight()...), value(-1, oneToEight()...)} {
		kept := q
		first, second := fifo.All(q), fifo.All(q)
		want := slices.Clone(second)
		whole := first[:cap(first)]
		for i := range whole {
			whole[i] = 0x55
		}
		if q != kept {
			t.Errorf("%v became %v", kept, q)
		}
		if !bytes.Equal(second, want) {
			t.Errorf("All of %v: another answer became %v", kept, second)
		}
		wantAll(t, q, want)
	}
}

// P10.2: the chapter's examples of Push and Pop.
func TestP102Examples(t *testing.T) {
	wantPush(t, fifo.Queue{}, 7, value(1, 7), true)
	wantPush(t, value(1, 7), 9, value(2, 7, 9), true)
	wantPop(t, value(2, 7, 9), 7, value(1, 9), true)
	wantPop(t, fifo.Queue{}, 0, fifo.Queue{}, false)
	wantPush(t, value(8, oneToEight()...), 1, value(8, oneToEight()...), false)
}

// P10.2: queues of none, of one, of seven and of eight bytes, and values that are none.
func TestP102PushRows(t *testing.T) {
	full := value(8, oneToEight()...)
	for _, b := range someBytes() {
		wantPush(t, value(0), b, value(1, b), true)
		wantPush(t, value(1), b, value(2, 0, b), true)
		wantPush(t, value(7, oneToEight()[:7]...), b, value(8, 1, 2, 3, 4, 5, 6, 7, b), true)
		wantPush(t, full, b, full, false)
		wantPush(t, value(8), b, value(8), false)
		for _, n := range []int{9, 10, 99, 256, math.MaxInt - 1, math.MaxInt} {
			wantPush(t, value(n, oneToEight()...), b, full, false)
			wantPush(t, value(n), b, value(8), false)
		}
		for _, n := range []int{0, -1, -2, -8, -256, math.MinInt + 1, math.MinInt} {
			wantPush(t, value(n, oneToEight()...), b, value(1, b), true)
			wantPush(t, value(n), b, value(1, b), true)
		}
		wantPush(t, value(2, oneToEight()...), b, value(3, 1, 2, b), true)
		wantPush(t, value(7, oneToEight()...), b, value(8, 1, 2, 3, 4, 5, 6, 7, b), true)
	}
}

// P10.2: a byte that is 0 is one, too; where there is none, Pop answers no byte of what stands behind.
func TestP102PopRows(t *testing.T) {
	for _, b := range someBytes() {
		wantPop(t, value(1, b), b, value(0), true)
		wantPop(t, value(2, b, 9), b, value(1, 9), true)
		wantPop(t, value(7, b, 2, 3, 4, 5, 6, 7), b, value(6, 2, 3, 4, 5, 6, 7), true)
		wantPop(t, value(8, b, 2, 3, 4, 5, 6, 7, 8), b, value(7, 2, 3, 4, 5, 6, 7, 8), true)
		for _, n := range []int{9, 10, 99, 256, math.MaxInt - 1, math.MaxInt} {
			wantPop(t, value(n, b, 2, 3, 4, 5, 6, 7, 8), b, value(7, 2, 3, 4, 5, 6, 7, 8), true)
			wantPop(t, value(n, b), b, value(7), true)
		}
		for _, n := range []int{0, -1, -2, -8, -256, math.MinInt + 1, math.MinInt} {
			wantPop(t, value(n, b, 2, 3, 4, 5, 6, 7, 8), 0, value(0), false)
			wantPop(t, value(n, 0, b), 0, value(0), false)
		}
		wantPop(t, value(1, b, 2, 3, 4, 5, 6, 7, 8), b, value(0), true)
		wantPop(t, value(3, b, 2, 3, 4, 5, 6, 7, 8), b, value(2, 2, 3), true)
	}
}

// P10.2: Push and Pop of all kinds of values, against the tests' own reckoning.
func TestP102Values(t *testing.T) {
	for i, q := range values() {
		wantPushReckoned(t, q, uint8(i*37))
		wantPushReckoned(t, q, 0)
		wantPopReckoned(t, q)
	}
}

// P10.2: each byte goes in, and comes out, as it is, at each place.
func TestP102EachByte(t *testing.T) {
	for n := range api.Fifo {
		for b := range 256 {
			q := value(n, bytes.Repeat([]uint8{9}, n)...)
			wantPushReckoned(t, q, uint8(b))
			q.Bytes[0], q.Len = uint8(b), n+1
			wantPopReckoned(t, q)
		}
	}
}

// P10.2: what is handed in stays as it is, also a value that is none.
func TestP102WhatIsHandedInStays(t *testing.T) {
	for _, q := range []fifo.Queue{{}, value(3, 1, 2, 3), value(8, oneToEight()...), value(-5, oneToEight()...), value(2, oneToEight()...), value(99, oneToEight()...)} {
		kept := q
		fifo.Push(q, 9)
		fifo.Pop(q)
		fifo.Mend(q)
		fifo.Right(q)
		fifo.All(q)
		if q != kept {
			t.Errorf("%v became %v", kept, q)
		}
	}
}
