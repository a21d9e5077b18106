package irq_test

import (
	"math"
	"slices"
	"testing"

	"plover/api"
	"plover/irq"
)

// P14.3: a request stays, whatever is allowed, masked, critical, at whatever level, whatever is chosen, and written to registers other than IrqClear, and whichever other one is taken.
func TestP143Stays(t *testing.T) {
	for v := range 8 {
		d, bit := dice(5+v), int32(1)<<v
		for range 300 {
			c := irq.Request(irq.Irq{Mask: d.set(), Pend: d.set()}, uint8(bit))
			for range 40 {
				c = irq.Write(c, api.IrqMask, int32(d.set()))
				c = irq.Write(c, api.IrqPend, int32(d.set()))
				c = irq.Write(c, api.IrqClear, int32(d.set())&^bit)
				c = irq.Write(c, 15+d.below(5), int32(d.set()))
				c = irq.Write(c, d.below(12), int32(d.set()))
				c = irq.Request(c, d.set())
				c = irq.Taken(c, (v+1+d.below(7))%8)
				c = irq.Taken(c, 8+d.below(300))
				irq.Choose(c, d.prios(), d.below(9), d.below(2), d.set())
				if irq.Peek(c, api.IrqPend)&bit == 0 {
					t.Fatalf("%d is requested no more: %v", v, c)
				}
			}
			// Once nothing keeps it away, it is taken.
			var prios [8]int
			prios[v] = 1 + d.below(7)
			wantChoose(t, asked{irq.Write(c, api.IrqMask, bit), prios, 0, 0, 0}, v)
		}
	}
}

// P14.3: a request that is masked, not allowed, beneath the level, or critical waits, of each vector; it is chosen as soon as just that is over.
func TestP143Waits(t *testing.T) {
	for v := range 8 {
		bit := uint8(1) << v
		for prio := 1; prio <= 7; prio++ {
			prios := alike(prio)
			c := irq.Request(irq.Irq{Mask: 255}, bit)
			wantChoose(t, asked{c, prios, 0, 0, bit}, -1)
			wantChoose(t, asked{irq.Write(c, api.IrqMask, int32(^bit)), prios, 0, 0, 0}, -1)
			wantChoose(t, asked{c, prios, prio, 0, 0}, -1)
			wantChoose(t, asked{c, prios, 0, 1, 0}, -1)
			wantChoose(t, asked{c, prios, prio - 1, 0, ^bit}, v)
			gone := irq.Write(c, api.IrqClear, int32(bit))
			wantChoose(t, asked{gone, prios, 0, 0, 0}, -1)
			wantChoose(t, asked{irq.Taken(c, v), prios, 0, 0, 0}, -1)
			wantChoose(t, asked{irq.Request(gone, bit), prios, 0, 0, 0}, v)
		}
	}
}

// drained takes, at level 0 and with none masked, one after the other till there is none, or more than there are vectors: which ones, and what is left.
func drained(c irq.Irq, prios [8]int) ([]int, irq.Irq) {
	var row []int
	for len(row) <= 8 {
		v, is := irq.Choose(c, prios, 0, 0, 0)
		if !is {
			break
		}
		row = append(row, v)
		c = irq.Taken(c, v)
	}
	return row, c
}

// wantDrained holds what is taken, once all are allowed, against what should be: all that are requested and have handlers, by falling priorities, of several of one by their numbers; the others stay requested.
func wantDrained(t *testing.T, pend uint8, prios [8]int) {
	t.Helper()
	requested := rowOf(pend)
	var want []int
	for v, prio := range prios {
		if requested[v] && prio > 0 {
			want = append(want, v)
		}
	}
	slices.SortStableFunc(want, func(a, b int) int {
		if prios[a] > prios[b] {
			return -1
		}
		if prios[a] < prios[b] {
			return 1
		}
		return 0
	})
	left := requested
	for _, v := range want {
		left[v] = false
	}
	got, c := drained(irq.Irq{Mask: 255, Pend: pend}, prios)
	if !slices.Equal(got, want) || c != (irq.Irq{Mask: 255, Pend: left.bits()}) {
		t.Errorf("of %d, by %v: %v are taken, want %v; left is %v", pend, prios, got, want, c)
	}
}

// P14.3: if all are allowed, and none is masked, all that are requested and have handlers are taken, by falling priorities, each once: of all sets, with priorities of all kinds.
func TestP143AllAreTaken(t *testing.T) {
	d := dice(20)
	for pend := range 256 {
		for _, prios := range somePrios() {
			wantDrained(t, uint8(pend), prios)
		}
		for range 300 {
			wantDrained(t, uint8(pend), d.prios())
		}
	}
}

// P14.3: handlers by priorities from 0 to 3, in all ways, of which all are requested.
func TestP143AllWaysOfPriorities(t *testing.T) {
	for n := range 1 << 16 {
		var prios [8]int
		for v, rest := 0, n; v < 8; v, rest = v+1, rest/4 {
			prios[v] = rest % 4
		}
		wantDrained(t, 255, prios)
	}
}

// book is a controller, and which vectors wait by what was asked of it, told by numbers: the row of requests that were not yet taken or cleared.
type book struct {
	c    irq.Irq
	wait map[int]int
}

// request requests a set of vectors: by a call, or by the register.
func (k *book) request(bits uint8, byRegister bool) {
	if byRegister {
		k.c = irq.Write(k.c, api.IrqPend, int32(bits)+256)
	} else {
		k.c = irq.Request(k.c, bits)
	}
	for v, is := range rowOf(bits) {
		if is {
			k.wait[v] = 1
		}
	}
}

// clear clears a set of vectors.
func (k *book) clear(bits uint8) {
	k.c = irq.Write(k.c, api.IrqClear, int32(bits)-512)
	for v, is := range rowOf(bits) {
		if is {
			delete(k.wait, v)
		}
	}
}

// take takes the one that is chosen, if there is one: it must be one that waits.
func (k *book) take(t *testing.T, prios [8]int, level, critical int, masked uint8) {
	t.Helper()
	v, is := irq.Choose(k.c, prios, level, critical, masked)
	if !is {
		return
	}
	if k.wait[v] == 0 || critical > 0 || prios[v] <= level || rowOf(masked)[v] || !rowOf(k.c.Mask)[v] {
		t.Errorf("Choose(%v, %v, %d, %d, %d): %d", k.c, prios, level, critical, masked, v)
	}
	k.c = irq.Taken(k.c, v)
	delete(k.wait, v)
}

// want holds what is requested against what waits.
func (k *book) want(t *testing.T) {
	t.Helper()
	var waits row
	for v := range k.wait {
		waits[v] = true
	}
	wantPeek(t, k.c, api.IrqPend, int32(waits.bits()))
}

// P14.3: long rows of requests, clearings, masks and takings: just those wait that were requested, and neither taken nor cleared since; at last all that have handlers are taken, each once.
func TestP143LongRows(t *testing.T) {
	d := dice(30)
	for range 400 {
		k, prios := book{wait: map[int]int{}}, d.prios()
		for range 200 {
			switch d.below(8) {
			case 0:
				k.request(d.set()&d.set(), false)
			case 1:
				k.request(d.set()&d.set(), true)
			case 2:
				k.clear(d.set() & d.set())
			case 3:
				k.c = irq.Write(k.c, api.IrqMask, int32(d.set())<<d.below(8))
			default:
				k.take(t, prios, d.below(8)-1, d.below(3)-1, d.set()&d.set())
			}
			k.want(t)
		}
		k.c = irq.Write(k.c, api.IrqMask, math.MaxInt32)
		wantDrained(t, k.c.Pend, prios)
		for range 8 {
			k.take(t, prios, 0, 0, 0)
		}
		for v := range k.wait {
			if prios[v] > 0 {
				t.Errorf("%d, of priority %d, waits still: %v", v, prios[v], k.c)
			}
		}
		k.want(t)
	}
}
