package mean_test

import (
	"reflect"
	"slices"
	"testing"

	"plover/api"
	"plover/mean"
)

// spoilt changes all numbers and texts of a value, also within its lists, and puts things behind those, into their room.
func spoilt(v reflect.Value) {
	switch v.Kind() {
	case reflect.Int, reflect.Int32, reflect.Int64:
		v.SetInt(v.Int() + 1)
	case reflect.Uint8:
		v.SetUint(v.Uint() + 1)
	case reflect.Bool:
		v.SetBool(!v.Bool())
	case reflect.String:
		v.SetString("spoilt")
	case reflect.Slice:
		for i := range v.Len() {
			spoilt(v.Index(i))
		}
		v.Set(reflect.Append(v, reflect.New(v.Type().Elem()).Elem()))
	case reflect.Array:
		for i := range v.Len() {
			spoilt(v.Index(i))
		}
	case reflect.Struct:
		for i := range v.NumField() {
			spoilt(v.Field(i))
		}
	}
}

// spoil changes whatever a machine answers.
func spoil(m *mean.Machine) {
	frames, words, events, bank := m.Frames(), m.Words(), m.Events(), m.Bank()
	for _, answer := range []any{&frames, &words, &events, &bank} {
		spoilt(reflect.ValueOf(answer).Elem())
	}
}

// P17.3: frames, words, the bank, events are copies: to change them changes nothing of the machine, now or later.
func TestP173AnswersAreCopies(t *testing.T) {
	for seed := range 40 {
		n, text, in := made(t, 2000+seed, 150)
		l := listed(t, n)
		m, quiet := machine(t, l, in...), machine(t, l, in...)
		for m.Outcome() == api.Running && m.Cycle() < 150 {
			was := whole(m)
			spoil(m)
			wantTold(t, text, whole(m), was)
			m.Do()
			quiet.Do()
		}
		spoil(m)
		wantTold(t, text, whole(m), whole(quiet))
		// Two answers share nothing, and no two frames of one.
		one, other := m.Frames(), m.Frames()
		want := told(other)
		spoilt(reflect.ValueOf(&one).Elem())
		wantTold(t, "the other answer", told(other), want)
		for i := range other {
			other[i].Locals = append(other[i].Locals, 77)
		}
		wantTold(t, text, whole(m), whole(quiet))
	}
}

// P17.1: the list and the inputs stay as they are; to change them later changes nothing of the machine, nor of its copies.
func TestP171HandedIn(t *testing.T) {
	for seed := range 40 {
		n, text, in := made(t, 3000+seed, 150)
		l := listed(t, n)
		in = slices.Grow(in, 10)
		wasList, wasIn := told(l), told(in)
		quiet := machine(t, listed(t, n), slices.Clone(in)...)
		m := mean.New(l, in)
		for _, one := range []*mean.Machine{quiet, m} {
			one.Run(70)
		}
		c := m.Copy()
		m.Run(10)
		wantTold(t, "the list", told(l), wasList)
		wantTold(t, "the inputs", told(in), wasIn)
		spoilt(reflect.ValueOf(&l).Elem())
		spoilt(reflect.ValueOf(&in).Elem())
		quiet.Run(80)
		m.Run(70)
		c.Run(80)
		wantTold(t, text, whole(m), whole(quiet))
		wantTold(t, "the copy", whole(c), whole(quiet))
	}
}

// P17.4: a machine and its copy go on alike, each by itself: whichever goes on, and however many there are, each is at each index as the program is as it is written.
func TestP174Copies(t *testing.T) {
	const most = 250
	d := dice(5)
	deep := 0
	for seed := range 80 {
		n, text, in := made(t, 4000+seed, most)
		l := listed(t, n)
		want := sourceOf(n, in, most)
		all := []*mean.Machine{machine(t, l, in...)}
		for range 400 {
			i := d.below(len(all))
			m := all[i]
			m.Run(min(d.below(30), most-m.Cycle()))
			c := m.Copy()
			if len(all) < 12 {
				all = append(all, c)
			} else {
				all[d.below(12)] = c
			}
			one := all[d.below(len(all))]
			if one.Cycle() >= len(want.indexes) || !wantIndex(t, one, l, want.indexes[one.Cycle()]) {
				t.Fatalf("seed %d: a copy is another one, of\n%s", seed, text)
			}
			if len(one.Frames()) > 3 {
				deep++
			}
			if d.below(40) == 0 {
				all = append(all[:0], machine(t, l, in...))
			}
		}
		for _, m := range all {
			m.Run(most - m.Cycle())
			if told(m.Events()) != told(want.events) || m.Outcome() != want.outcome {
				t.Errorf("seed %d: %s, want %s, %d of\n%s", seed, story(m), happened(want.events), want.outcome, text)
			}
		}
	}
	if deep < 1000 {
		t.Errorf("only %d times deep", deep)
	}
}

// P17.4: a copy that goes other ways than its machine: they share no words, locals, frames, devices, or events.
func TestP174CopiesApart(t *testing.T) {
	text := "var a: w16[4]; fn g(x: w16) { a[x] = a[x] + 1; x = x + 1; a[x] = 5; } fn f(x: w16) { var y: w16 = x; g(y); y = y + 1; g(y); x = y; } on 0 priority 1 { var h: w16 = 3; a[3] = h; h = 4; } " +
		"fn main() { var i: w16 = 0; out gpio.edge = 255; out irq.mask = 1; while (1) { f(i); i = i ^ 1; out gpio.out = i; } }"
	m := machine(t, ofText(t, text), pins(9, 1), pins(20, 2), pins(31, 4), pins(47, 8), pins(60, 16))
	var copies []*mean.Machine
	var were []string
	for range 90 {
		copies, were = append(copies, m.Copy()), append(were, whole(m))
		m.Do()
	}
	end := whole(m)
	// Each goes on from another place than all others, and back and forth among them: none moves another one.
	for _, i := range []int{89, 3, 50, 12, 49, 13, 88, 0, 70, 30} {
		wantTold(t, "ahead", whole(copies[i]), were[i])
		half := copies[i].Copy()
		copies[i].Run((90 - i) / 2)
		wantTold(t, "its copy", whole(half), were[i])
		half.Run(90 - i)
		copies[i].Run(90 - copies[i].Cycle())
		wantTold(t, "the copy's end", whole(half), end)
		wantTold(t, "the end", whole(copies[i]), end)
	}
	for i, c := range copies {
		if c.Cycle() == i {
			wantTold(t, "still ahead", whole(c), were[i])
		}
	}
	wantTold(t, "the machine", whole(m), end)
}

// P17.3: a copy of one that is at first, and of one that is over.
func TestP173CopyAtEnds(t *testing.T) {
	l := ofText(t, manyLocals)
	m := machine(t, l, pins(2, 3))
	c := m.Copy()
	wantTold(t, "at first", whole(c), whole(m))
	c.Run(100)
	if m.Cycle() != 0 || m.Run(100) != c.Cycle() {
		t.Errorf("%s, %s", story(m), story(c))
	}
	wantTold(t, "over", whole(c), whole(m))
	wantTold(t, "copied when over", whole(c.Copy()), whole(m))
}
