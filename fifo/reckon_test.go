package fifo_test

import (
	"bytes"
	"math"
	"testing"

	"plover/api"
	"plover/fifo"
)

// This is the tests' own reckoning: of a value the bytes that count, as a slice, which is all that a queue is.

// counting answers the bytes of a value that count.
func counting(q fifo.Queue) []uint8 {
	var all []uint8
	for i, b := range q.Bytes {
		if i < q.Len {
			all = append(all, b)
		}
	}
	return all
}

// laid answers the one value that a queue of these bytes is.
func laid(all []uint8) fifo.Queue {
	q := fifo.Queue{Len: len(all)}
	for i, b := range all {
		q.Bytes[i] = b
	}
	return q
}

// value answers a value of a Len, with bytes at the first places, whether it is a queue or not.
func value(n int, row ...uint8) fifo.Queue {
	q := fifo.Queue{Len: n}
	for i, b := range row {
		q.Bytes[i] = b
	}
	return q
}

// someBytes are bytes at which something could change.
func someBytes() []uint8 {
	return []uint8{0, 1, 2, 7, 8, 9, 127, 128, 254, 255}
}

// lengths are Lens of queues, and of values that are none, up to both ends, and such that become one of a queue where bits are lost.
func lengths() []int {
	all := []int{math.MinInt, math.MinInt + 1, math.MinInt + 8, -1 << 40, -1 << 32, -1<<32 + 3, -65536, -256, -255, -128, -16, -9, 10, 15, 16, 17, 99, 127, 128, 255, 256, 257, 260, 65536, 65539, 1 << 31, 1 << 32, 1<<32 + 3, 1 << 40, math.MaxInt - 8, math.MaxInt - 1, math.MaxInt}
	for n := -8; n <= api.Fifo+1; n++ {
		all = append(all, n)
	}
	return all
}

// values are values of all those Lens, with 0 at any places, and other bytes at all others.
func values() []fifo.Queue {
	var all []fifo.Queue
	for _, n := range lengths() {
		for there := range 1 << api.Fifo {
			q := fifo.Queue{Len: n}
			for i := range q.Bytes {
				q.Bytes[i] = uint8(there >> i & 1 * (i + 1))
			}
			all = append(all, q)
			for i, b := range q.Bytes {
				q.Bytes[i] = -b
			}
			all = append(all, q)
		}
	}
	return all
}

// dice answers numbers below n, the same ones each time.
type dice uint64

func (d *dice) below(n int) int {
	*d = *d*6364136223846793005 + 1442695040888963407
	return int(uint64(*d) >> 33 % uint64(n))
}

// row answers so many bytes, 0 now and then.
func (d *dice) row(n int) []uint8 {
	all := make([]uint8, n)
	for i := range all {
		all[i] = uint8(d.below(256) * d.below(2))
	}
	return all
}

// wantSame fails unless two queues are the same value.
func wantSame(t *testing.T, what string, got, want fifo.Queue) {
	t.Helper()
	if got != want {
		t.Errorf("%s: %v, want %v", what, got, want)
	}
}

func wantMend(t *testing.T, q, want fifo.Queue) {
	t.Helper()
	if got := fifo.Mend(q); got != want {
		t.Errorf("Mend(%v): %v, want %v", q, got, want)
	}
}

func wantRight(t *testing.T, q fifo.Queue, want bool) {
	t.Helper()
	if got := fifo.Right(q); got != want {
		t.Errorf("Right(%v): %v, want %v", q, got, want)
	}
}

func wantAll(t *testing.T, q fifo.Queue, want []uint8) {
	t.Helper()
	if got := fifo.All(q); !bytes.Equal(got, want) {
		t.Errorf("All(%v): %v, want %v", q, got, want)
	}
}

func wantOf(t *testing.T, row []uint8, want fifo.Queue) {
	t.Helper()
	if got := fifo.Of(row); got != want {
		t.Errorf("Of(%v): %v, want %v", row, got, want)
	}
}

func wantPush(t *testing.T, q fifo.Queue, b uint8, want fifo.Queue, wantIs bool) {
	t.Helper()
	if got, is := fifo.Push(q, b); got != want || is != wantIs {
		t.Errorf("Push(%v, %d): %v, %v, want %v, %v", q, b, got, is, want, wantIs)
	}
}

func wantPop(t *testing.T, q fifo.Queue, want uint8, wantRest fifo.Queue, wantIs bool) {
	t.Helper()
	if got, rest, is := fifo.Pop(q); got != want || rest != wantRest || is != wantIs {
		t.Errorf("Pop(%v): %d, %v, %v, want %d, %v, %v", q, got, rest, is, want, wantRest, wantIs)
	}
}

// wantPushReckoned holds Push against what is reckoned of the bytes that count.
func wantPushReckoned(t *testing.T, q fifo.Queue, b uint8) {
	t.Helper()
	all := counting(q)
	if len(all) == api.Fifo {
		wantPush(t, q, b, laid(all), false)
		return
	}
	wantPush(t, q, b, laid(append(all, b)), true)
}

// wantPopReckoned holds Pop against what is reckoned of the bytes that count.
func wantPopReckoned(t *testing.T, q fifo.Queue) {
	t.Helper()
	all := counting(q)
	if len(all) == 0 {
		wantPop(t, q, 0, fifo.Queue{}, false)
		return
	}
	wantPop(t, q, all[0], laid(all[1:]), true)
}
