package irq_test

import (
	"math"
	"testing"

	"plover/irq"
)

// all is a controller in which all vectors are allowed, and requested.
func all() irq.Irq {
	return irq.Irq{Mask: 255, Pend: 255}
}

// alike are priorities that are all one.
func alike(prio int) [8]int {
	return [8]int{prio, prio, prio, prio, prio, prio, prio, prio}
}

// P14.2: the chapter's examples.
func TestP142Examples(t *testing.T) {
	prios := [8]int{1: 2, 3: 5, 4: 5}
	c := irq.Request(irq.Irq{Mask: 255}, 2+8+16)
	wantChoose(t, asked{c, prios, 0, 0, 0}, 3)
	wantChoose(t, asked{c, prios, 2, 0, 0}, 3)
	wantChoose(t, asked{c, prios, 5, 0, 0}, -1)
	wantChoose(t, asked{c, prios, 0, 1, 0}, -1)
	wantChoose(t, asked{c, prios, 0, 0, 8}, 4)
	c = irq.Taken(c, 3)
	wantChoose(t, asked{c, prios, 0, 0, 0}, 4)
	c = irq.Taken(c, 4)
	wantChoose(t, asked{c, prios, 0, 0, 0}, 1)
	wantChoose(t, asked{irq.Write(irq.Irq{Mask: 255}, 13, 1), prios, 0, 0, 0}, -1)
}

// P14.2: one vector alone is chosen just if it is requested, and allowed, and not masked: each of these by its own bit.
func TestP142EachVector(t *testing.T) {
	for v := range 8 {
		bit := uint8(1) << v
		for _, prio := range []int{1, 2, 6, 7} {
			var prios [8]int
			prios[v] = prio
			for _, c := range []irq.Irq{all(), {Mask: bit, Pend: bit}, {Mask: 255, Pend: bit}, {Mask: bit, Pend: 255}} {
				wantChoose(t, asked{c, prios, 0, 0, 0}, v)
				wantChoose(t, asked{c, prios, 0, 0, ^bit}, v)
				wantChoose(t, asked{c, prios, 0, 0, bit}, -1)
				wantChoose(t, asked{c, prios, 0, 0, 255}, -1)
				wantChoose(t, asked{irq.Irq{Mask: c.Mask &^ bit, Pend: c.Pend}, prios, 0, 0, 0}, -1)
				wantChoose(t, asked{irq.Irq{Mask: c.Mask, Pend: c.Pend &^ bit}, prios, 0, 0, 0}, -1)
			}
		}
	}
}

// P14.2: where nothing is requested, or nothing allowed, or all are masked, or none has a handler, there is none, whatever the rest is.
func TestP142None(t *testing.T) {
	for _, prios := range somePrios() {
		for _, level := range levels() {
			for _, set := range sets() {
				wantChoose(t, asked{irq.Irq{Mask: 255, Pend: 0}, prios, level, 0, set}, -1)
				wantChoose(t, asked{irq.Irq{Mask: 0, Pend: 255}, prios, level, 0, set}, -1)
				wantChoose(t, asked{irq.Irq{Mask: set, Pend: ^set}, prios, level, 0, 0}, -1)
				wantChoose(t, asked{irq.Irq{Mask: set, Pend: 255}, prios, level, 0, set}, -1)
				wantChoose(t, asked{irq.Irq{Mask: 255, Pend: set}, prios, level, 0, set}, -1)
				wantChoose(t, asked{all(), prios, level, 0, 255}, -1)
				wantChoose(t, asked{all(), [8]int{}, level, 0, set}, -1)
			}
		}
	}
}

// P14.2: a priority of 0, or less, is no handler's, at whatever level: also at one that is less still. One above MaxPrio counts as it is.
func TestP142Priorities(t *testing.T) {
	for v := range 8 {
		for _, prio := range []int{math.MinInt, math.MinInt + 1, -1 << 32, -256, -8, -7, -2, -1, 0} {
			for _, rest := range []int{math.MinInt, -1, 0} {
				prios := alike(rest)
				prios[v] = prio
				for _, level := range levels() {
					wantChoose(t, asked{all(), prios, level, 0, 0}, -1)
				}
				prios[7-v] = 1
				wantChoose(t, asked{all(), prios, 0, 0, 0}, 7-v)
				wantChoose(t, asked{all(), prios, math.MinInt, 0, 0}, 7-v)
			}
		}
		for _, prio := range []int{1, 2, 3, 4, 5, 6, 7, 8, 9, 255, 256, 257, 65536, 1 << 31, 1 << 32, 1<<32 + 1, math.MaxInt - 1, math.MaxInt} {
			prios := alike(prio - 1)
			prios[v] = prio
			wantChoose(t, asked{all(), prios, 0, 0, 0}, v)
			wantChoose(t, asked{all(), prios, prio - 1, 0, 0}, v)
			wantChoose(t, asked{all(), prios, prio, 0, 0}, -1)
		}
	}
}

// P14.2: levels below 0, 0, just at, below and above the greatest priority, and both ends.
func TestP142Levels(t *testing.T) {
	for _, r := range []struct{ level, want int }{
		{math.MinInt, 5}, {math.MinInt + 1, 5}, {-256, 5}, {-2, 5}, {-1, 5}, {0, 5}, {1, 5}, {2, 5}, {3, 5}, {4, 5},
		{5, -1}, {6, -1}, {7, -1}, {8, -1}, {256, -1}, {1 << 32, -1}, {math.MaxInt - 1, -1}, {math.MaxInt, -1},
	} {
		wantChoose(t, asked{all(), [8]int{1, 2, 3, 4, 0, 5, 5, 1}, r.level, 0, 0}, r.want)
		wantChoose(t, asked{all(), [8]int{0, 0, -5, 0, 0, 5, 0, 0}, r.level, 0, 0}, r.want)
	}
	wantChoose(t, asked{all(), alike(math.MaxInt), math.MaxInt, 0, 0}, -1)
	wantChoose(t, asked{all(), alike(math.MaxInt), math.MaxInt - 1, 0, 0}, 0)
	wantChoose(t, asked{all(), alike(math.MinInt), math.MinInt, 0, 0}, -1)
	wantChoose(t, asked{all(), alike(math.MinInt + 1), math.MinInt, 0, 0}, -1)
	for prio := 1; prio <= 7; prio++ {
		for level := -3; level <= 10; level++ {
			want := -1
			if level < prio {
				want = 0
			}
			wantChoose(t, asked{all(), alike(prio), level, 0, 0}, want)
		}
	}
}

// P14.2: what is critical keeps all away if it is above 0, and none if it is 0, or below.
func TestP142Critical(t *testing.T) {
	d := dice(2)
	for range 3000 {
		a := d.choice()
		for _, critical := range []int{math.MinInt, math.MinInt + 1, -1 << 32, -256, -2, -1, 0} {
			a.critical = 0
			want := a.chosen()
			a.critical = critical
			wantChoose(t, a, want)
		}
		for _, critical := range []int{1, 2, 3, 7, 255, 256, 1 << 31, 1 << 32, math.MaxInt - 1, math.MaxInt} {
			a.critical = critical
			wantChoose(t, a, -1)
		}
	}
}

// P14.2: with none masked the best one is chosen, with just that one masked the next one, and so on, till all are masked.
func TestP142MasksOfTheChosen(t *testing.T) {
	a := asked{c: all(), prios: [8]int{3, 1, 4, 1, 5, 2, 6, 5}}
	for _, want := range []int{6, 4, 7, 2, 0, 5, 1, 3} {
		wantChoose(t, a, want)
		a.masked += 1 << want
	}
	wantChoose(t, a, -1)
	d := dice(3)
	for range 20000 {
		a := d.choice()
		a.critical = 0
		for v := a.chosen(); v >= 0; v = a.chosen() {
			wantChoose(t, a, v)
			a.masked += 1 << v
		}
		wantChoose(t, a, -1)
	}
}

// P14.2: of several of the greatest priority the least is chosen: of all sets of vectors, with others of less beside them, and of none.
func TestP142LeastOfSeveral(t *testing.T) {
	for top := 1; top < 256; top++ {
		in, least := rowOf(uint8(top)), 0
		for !in[least] {
			least++
		}
		for _, prio := range []int{1, 2, 5, 7, 8, 1 << 40, math.MaxInt} {
			for _, rest := range []int{math.MinInt, -1, 0, prio - 1} {
				prios := alike(rest)
				for v, is := range in {
					if is {
						prios[v] = prio
					}
				}
				wantChoose(t, asked{all(), prios, 0, 0, 0}, least)
				wantChoose(t, asked{all(), prios, prio - 1, 0, 0}, least)
				wantChoose(t, asked{all(), prios, prio, 0, 0}, -1)
			}
			wantChoose(t, asked{irq.Irq{Mask: 255, Pend: uint8(top)}, alike(prio), 0, 0, 0}, least)
			wantChoose(t, asked{irq.Irq{Mask: uint8(top), Pend: 255}, alike(prio), 0, 0, 0}, least)
			wantChoose(t, asked{all(), alike(prio), 0, 0, ^uint8(top)}, least)
		}
	}
}

// P14.2: all controllers, with priorities, levels and masks of all kinds, against the tests' own reckoning.
func TestP142OfAll(t *testing.T) {
	prios, highs, masks := somePrios(), levels(), sets()
	n := 0
	for mask := range 256 {
		for pend := range 256 {
			c := irq.Irq{Mask: uint8(mask), Pend: uint8(pend)}
			for range 12 {
				n++
				wantChooseReckoned(t, asked{c, prios[n%len(prios)], highs[n%len(highs)], 0, masks[n%len(masks)]})
				wantChooseReckoned(t, asked{c, prios[n%len(prios)], n % 7, 0, 0})
			}
		}
	}
	for _, p := range prios {
		for _, level := range highs {
			for _, masked := range masks {
				for _, critical := range []int{math.MinInt, -1, 0, 1, 2, math.MaxInt} {
					wantChooseReckoned(t, asked{all(), p, level, critical, masked})
				}
			}
		}
	}
}

// P14.2: any choices, against the tests' own reckoning; what is handed in stays, so the same call answers the same again.
func TestP142AnyChoices(t *testing.T) {
	d := dice(4)
	found := [9]int{}
	for range 300000 {
		a := d.choice()
		kept := a
		wantChooseReckoned(t, a)
		wantChooseReckoned(t, a)
		if a != kept {
			t.Errorf("%v became %v", kept, a)
		}
		found[a.chosen()+1]++
	}
	for i, n := range found {
		if n < 1000 {
			t.Errorf("%d was to be chosen %d times only", i-1, n)
		}
	}
}

// P14.2: Taken of each vector, requested or not: its bit alone is gone, and Mask stays.
func TestP142Taken(t *testing.T) {
	for mask := range 256 {
		for pend := range 256 {
			c := irq.Irq{Mask: uint8(mask), Pend: uint8(pend)}
			for v := range 8 {
				wantTaken(t, c, v, taken(c, v))
				wantTaken(t, irq.Taken(c, v), v, irq.Taken(c, v))
			}
		}
	}
	wantTaken(t, irq.Irq{Mask: 255, Pend: 26}, 3, irq.Irq{Mask: 255, Pend: 18})
	wantTaken(t, irq.Irq{Mask: 255, Pend: 26}, 2, irq.Irq{Mask: 255, Pend: 26})
	wantTaken(t, irq.Irq{Mask: 255, Pend: 255}, 0, irq.Irq{Mask: 255, Pend: 254})
	wantTaken(t, irq.Irq{Mask: 255, Pend: 255}, 7, irq.Irq{Mask: 255, Pend: 127})
}

// P14.2: Taken of what is no vector changes nothing: -1, 8, both ends, and numbers that become a vector's where bits are lost.
func TestP142TakenOfNone(t *testing.T) {
	for _, v := range noVectors() {
		for _, c := range someControllers() {
			wantTaken(t, c, v, c)
		}
		for pend := range 256 {
			wantTaken(t, irq.Irq{Mask: 0x5a, Pend: uint8(pend)}, v, irq.Irq{Mask: 0x5a, Pend: uint8(pend)})
		}
	}
}
