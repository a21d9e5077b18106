package fifo_test

import (
	"testing"

	"plover/api"
	"plover/fifo"
)

// P10.3: what is pushed is popped in order, each once, for every number of bytes; then there is none.
func TestP103InOrder(t *testing.T) {
	d := dice(2)
	for range 300 {
		row := d.row(d.below(api.Fifo + 1))
		var q fifo.Queue
		for i, b := range row {
			wantPush(t, q, b, laid(row[:i+1]), true)
			q, _ = fifo.Push(q, b)
		}
		for i, b := range row {
			wantPop(t, q, b, laid(row[i+1:]), true)
			_, q, _ = fifo.Pop(q)
		}
		wantPop(t, q, 0, fifo.Queue{}, false)
	}
}

// P10.3: a byte that a full queue does not take is not popped, and nothing else is lost by it.
func TestP103FullQueue(t *testing.T) {
	q := fifo.Of(oneToEight())
	for b := range 256 {
		wantPush(t, q, uint8(b), fifo.Of(oneToEight()), false)
		q, _ = fifo.Push(q, uint8(b))
	}
	_, q, _ = fifo.Pop(q)
	wantPush(t, q, 77, value(8, 2, 3, 4, 5, 6, 7, 8, 77), true)
	q, _ = fifo.Push(q, 77)
	for _, b := range []uint8{2, 3, 4, 5, 6, 7, 8, 77} {
		got, rest, is := fifo.Pop(q)
		if got != b || !is {
			t.Errorf("Pop(%v): %d, %v, want %d, true", q, got, is, b)
		}
		q = rest
	}
	wantSame(t, "behind the last byte", q, fifo.Queue{})
}

// P10.3: any pushes and pops, from any value on, against the tests' own reckoning; all that is answered is right.
func TestP103AnyWalks(t *testing.T) {
	d := dice(3)
	starts := values()
	for range 2000 {
		q := starts[d.below(len(starts))]
		bent := 1 + d.below(5) // some walks fill the queue, some drain it
		for range 60 {
			if d.below(6) < bent {
				b := d.row(1)[0]
				wantPushReckoned(t, q, b)
				q, _ = fifo.Push(q, b)
			} else {
				wantPopReckoned(t, q)
				_, q, _ = fifo.Pop(q)
			}
			wantRight(t, q, true)
			wantSame(t, "mended, on a walk", fifo.Mend(q), q)
		}
	}
}

// P10.3: of a long row of bytes, all that are taken come out, in order, each once, whenever they are popped.
func TestP103LongRows(t *testing.T) {
	d := dice(4)
	var q fifo.Queue
	var in, out []uint8
	for range 20000 {
		if d.below(2) == 0 {
			b := uint8(d.below(256))
			after, is := fifo.Push(q, b)
			if is {
				in = append(in, b)
			}
			q = after
		} else if b, after, is := fifo.Pop(q); is {
			out = append(out, b)
			q = after
		}
	}
	out = append(out, fifo.All(q)...)
	if string(in) != string(out) || len(in) < 5000 {
		t.Errorf("%d bytes were taken, %d came out, or others", len(in), len(out))
	}
}

// P10.3: what is answered of a value that is none is right, whatever it is.
func TestP103AllAnswersAreRight(t *testing.T) {
	for i, q := range values() {
		pushed, _ := fifo.Push(q, uint8(i))
		_, popped, _ := fifo.Pop(q)
		wantRight(t, fifo.Mend(q), true)
		wantRight(t, pushed, true)
		wantRight(t, popped, true)
		wantRight(t, fifo.Of(q.Bytes[:]), true)
	}
}

// came is a queue, and the bytes that it should have.
type came struct {
	q     fifo.Queue
	bytes string
}

// P10.3: the same bytes make the same value, in whatever way the queue came to them: by all rows of up to nine pushes (of 0, of 1) and pops.
func TestP103SameBytesSameValue(t *testing.T) {
	all := map[came]bool{}
	last := map[came]bool{{}: true}
	for range 10 {
		next := map[came]bool{}
		for c := range last {
			all[c] = true
			zero, _ := fifo.Push(c.q, 0)
			one, _ := fifo.Push(c.q, 1)
			_, popped, _ := fifo.Pop(c.q)
			next[came{zero, pushedTo(c.bytes, 0)}] = true
			next[came{one, pushedTo(c.bytes, 1)}] = true
			next[came{popped, c.bytes[min(1, len(c.bytes)):]}] = true
		}
		last = next
	}
	// All rows of up to eight bytes are among them, each by one value alone.
	if want := 1<<(api.Fifo+1) - 1; len(all) != want {
		t.Errorf("%d queues, want %d", len(all), want)
	}
	for c := range all {
		wantOf(t, []uint8(c.bytes), c.q)
		wantAll(t, c.q, []uint8(c.bytes))
	}
}

// pushedTo answers the bytes with one more behind, if there are fewer than eight.
func pushedTo(all string, b uint8) string {
	if len(all) == api.Fifo {
		return all
	}
	return all + string([]uint8{b})
}

// P10.3: the ways to one row of bytes: made of it, pushed, popped of a longer one, mended of what is none, told and made again.
func TestP103Ways(t *testing.T) {
	d := dice(5)
	for range 2000 {
		row := d.row(d.below(api.Fifo + 1))
		want := laid(row)
		wantOf(t, row, want)
		var q fifo.Queue
		for _, b := range row {
			q, _ = fifo.Push(q, b)
		}
		wantSame(t, "pushed", q, want)
		q = fifo.Of(append(d.row(api.Fifo-len(row)), row...))
		for q.Len > len(row) {
			_, q, _ = fifo.Pop(q)
		}
		wantSame(t, "popped", q, want)
		odd := value(len(row), append(row, d.row(api.Fifo-len(row))...)...)
		wantMend(t, odd, want)
		wantOf(t, fifo.All(odd), want)
	}
}

// P10.3: right queues of the same bytes are the same value, and of other bytes, or of more of them, another one.
func TestP103RightQueues(t *testing.T) {
	d := dice(6)
	for range 20000 {
		a, b := d.row(d.below(4)), d.row(d.below(4))
		if d.below(3) == 0 {
			b = append([]uint8{}, a...)
		}
		same := string(a) == string(b)
		if got := fifo.Of(a) == fifo.Of(b); got != same {
			t.Errorf("Of(%v) and Of(%v) are the same: %v", a, b, got)
		}
	}
	for n := range api.Fifo {
		if fifo.Of(make([]uint8, n)) == fifo.Of(make([]uint8, n+1)) {
			t.Errorf("%d bytes that are 0, and one more: the same", n)
		}
	}
}
