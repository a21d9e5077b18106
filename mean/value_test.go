package mean_test

import (
	"math"
	"testing"

	"plover/api"
)

// values are numbers at the ends of both types, and within.
func values() []int64 {
	return []int64{0, 1, -1, 2, 7, -7, 15, 16, 31, 32, 33, 300, -300, 32767, -32768, 32768, -32769, 65535, 65536, math.MaxInt32, math.MinInt32}
}

// puts answers a list that sets its locals and words, and then puts those expressions out, one each cycle.
func puts(all ...api.Expr) api.List {
	var steps []api.Step
	for i, v := range []int64{11, -22} {
		steps = append(steps, setLocal(i, len(steps)+1, number(api.W32, v)))
	}
	for i := range 8 {
		steps = append(steps, setWord(i, len(steps)+1, number(api.W32, int64(100+i))))
	}
	for _, e := range all {
		steps = append(steps, step(api.StepOut, len(steps)+1, e))
	}
	return mainOf(steps...)
}

func setLocal(v, next int, e api.Expr) api.Step {
	s := step(api.StepSet, next, e)
	s.Var, s.Type = v, api.W32
	return s
}

func setWord(addr, next int, e api.Expr) api.Step {
	s := step(api.StepSet, next, e)
	s.Addr, s.Type = addr, api.W32
	return s
}

func setCell(addr, count, next int, index, e api.Expr) api.Step {
	s := setWord(addr, next, index)
	s.Count, s.E = count, []api.Expr{index, e}
	return s
}

// wantPut fails unless those values are put out, or a trap comes in their stead, at last.
func wantPut(t *testing.T, l api.List, end int, want ...int64) {
	t.Helper()
	m := machine(t, l)
	m.Run(1000)
	var got []int64
	for _, e := range m.Events() {
		got = append(got, int64(e.B))
	}
	if told(got) != told(want) || m.Outcome() != end {
		t.Errorf("put out %v, outcome %d, want %v, %d of\n%+v", got, m.Outcome(), want, end, l.Units[0].Steps[min(10, len(l.Units[0].Steps)):])
	}
}

// P17.1: values of numbers, of locals, of words.
func TestP171Plain(t *testing.T) {
	var all []api.Expr
	var want []int64
	for _, v := range values() {
		all, want = append(all, number(api.W32, v)), append(want, v)
	}
	for i, v := range []int64{11, -22, 0} {
		all, want = append(all, local(api.W32, i)), append(want, v)
	}
	for i := range 8 {
		all, want = append(all, word(api.W32, i)), append(want, int64(100+i))
	}
	wantPut(t, puts(all...), api.Halted, want...)
}

// P17.1: operators of one value, by their own type, of numbers that it has, and that it has not.
func TestP171OperatorsOfOne(t *testing.T) {
	for op := api.ENeg; op <= api.EW32; op++ {
		for _, typ := range []int{api.W16, api.W32} {
			for _, inner := range []int{api.W16, api.W32} {
				var all []api.Expr
				var want []int64
				for _, v := range values() {
					all, want = append(all, operator(op, typ, number(inner, v))), append(want, one(op, typ, v))
				}
				wantPut(t, puts(all...), api.Halted, want...)
			}
		}
	}
}

// P17.1: operators of two values, by the type of the first one, whatever their own, and the second one's, are.
func TestP171OperatorsOfTwo(t *testing.T) {
	for op := api.EMul; op <= api.EOr; op++ {
		for which := range 8 {
			first, second, own := api.W16+which%2, api.W16+which/2%2, api.W16+which/4
			for _, a := range values() {
				var all []api.Expr
				var want []int64
				for _, b := range values() {
					v, is := two(op, first, a, b)
					if !is {
						wantPut(t, puts(operator(op, own, number(first, a), number(second, b))), api.TrapDiv)
						continue
					}
					all, want = append(all, operator(op, own, number(first, a), number(second, b))), append(want, v)
				}
				wantPut(t, puts(all...), api.Halted, want...)
			}
		}
	}
}

// P17.1: the first one of two values is the left one; operators within operators.
func TestP171Nested(t *testing.T) {
	x, y, w := local(api.W32, 0), local(api.W32, 1), word(api.W32, 5)
	all := []api.Expr{
		operator(api.ESub, api.W32, x, y), operator(api.ESub, api.W32, y, x), operator(api.ELt, api.W16, y, x), operator(api.EShl, api.W32, x, number(api.W32, 2)),
		operator(api.ESub, api.W32, operator(api.EMul, api.W32, x, y), operator(api.ENeg, api.W32, operator(api.EDiv, api.W32, w, x))),
		operator(api.EZero, api.W16, operator(api.EZero, api.W16, operator(api.EEq, api.W16, x, number(api.W32, 11)))),
		operator(api.EW32, api.W32, operator(api.EW16, api.W16, operator(api.EAdd, api.W32, number(api.W32, 70000), x))),
	}
	wantPut(t, puts(all...), api.Halted, 33, -33, 1, 44, -242+9, 1, 70011-65536)
}

// P17.1: cells whose index is below 0, at 0, at the last one, and at N, of arrays of any length, anywhere.
func TestP171Cells(t *testing.T) {
	for ref := range 8 {
		for n := 1; ref+n <= 8; n++ {
			for i := int64(-2); i <= 9; i++ {
				for _, typ := range []int{api.W16, api.W32} {
					l := puts(cell(api.W32, ref, n, number(typ, i)))
					if i < 0 || i >= int64(n) {
						wantPut(t, l, api.TrapIndex)
						continue
					}
					wantPut(t, l, api.Halted, 100+int64(ref)+i)
				}
			}
		}
	}
	for _, i := range []int64{math.MinInt32, math.MaxInt32, -65536, 65536, 32768} {
		wantPut(t, puts(cell(api.W32, 0, 8, number(api.W32, i))), api.TrapIndex)
	}
	// An element's index may be an element, too.
	inner := cell(api.W32, 4, 4, operator(api.ESub, api.W32, word(api.W32, 2), number(api.W32, 100)))
	wantPut(t, puts(operator(api.EAdd, api.W32, inner, cell(api.W32, 1, 7, operator(api.ESub, api.W32, inner, number(api.W32, 104))))), api.Halted, 106+103)
}

// traps are expressions that trap, and how.
func traps() map[int]api.Expr {
	return map[int]api.Expr{
		api.TrapDiv:   operator(api.EDiv, api.W32, number(api.W32, 5), number(api.W32, 0)),
		api.TrapIndex: cell(api.W32, 0, 8, number(api.W32, 8)),
	}
}

// P17.1: of several traps the first one is it, from left to right, in operators, arguments, elements, whatever stands around.
func TestP171FirstTrap(t *testing.T) {
	div, index, right := traps()[api.TrapDiv], traps()[api.TrapIndex], number(api.W32, 1)
	within := map[int][]api.Expr{
		api.TrapDiv: {
			operator(api.EAdd, api.W32, div, index), operator(api.EAdd, api.W32, right, div), operator(api.EDiv, api.W32, div, number(api.W32, 0)),
			operator(api.ENeg, api.W32, div), cell(api.W32, 0, 8, div), cell(api.W32, 0, 0, div), operator(api.ERem, api.W16, right, number(api.W32, 0)),
			operator(api.EDiv, api.W32, operator(api.EDiv, api.W32, right, number(api.W32, 0)), index), operator(api.EShl, api.W32, right, operator(api.EMul, api.W32, div, index)),
		},
		api.TrapIndex: {
			operator(api.EAdd, api.W32, index, div), operator(api.EDiv, api.W32, index, number(api.W32, 0)), operator(api.EZero, api.W16, index), cell(api.W32, 0, 8, index),
			operator(api.EAnd, api.W32, operator(api.EOr, api.W32, number(api.W32, 0), index), div), operator(api.ERem, api.W32, right, operator(api.ELt, api.W16, index, div)),
		},
	}
	for trap, all := range within {
		for _, e := range all {
			wantPut(t, puts(e), trap)
			wantPut(t, puts(right, e, right), trap, 1)
		}
	}
}

// P17.1: wherever a value is asked for, a trap ends the machine, which has done nothing of that step, and stays at it.
func TestP171TrapsStay(t *testing.T) {
	for trap, e := range traps() {
		right := number(api.W32, 1)
		call := step(api.StepCall, 10, right, e)
		call.Var = 0
		back := step(api.StepReturn, -1, e)
		choice := step(api.StepIf, 10, e)
		choice.Else = 10
		for about, s := range map[string]api.Step{
			"a local": setLocal(0, 10, e), "a word": setWord(3, 10, e), "an element": setCell(0, 8, 10, right, e), "an index": setCell(0, 8, 10, e, right),
			"an argument": call, "what is put out": step(api.StepOut, 10, e), "what is tested": choice, "what is returned": back,
		} {
			l := puts()
			l.Units[0].Steps = append(l.Units[0].Steps[:10], s, step(api.StepEnd, -1))
			m := machine(t, l, pins(11, 3))
			m.Run(10)
			ahead := m.Copy()
			if ahead.Outcome() != api.Running || m.Run(5) != 1 || m.Outcome() != trap || m.Cycle() != 11 {
				t.Errorf("%s: %s, want the trap %d", about, ending(m), trap)
			}
			wantTold(t, about+": words", m.Words(), ahead.Words())
			wantTold(t, about+": frames", m.Frames(), ahead.Frames())
			wantTold(t, about+": events", m.Events(), ahead.Events())
			// Time went on all the same.
			if m.Bank().Gpio.In != 3 || m.Line() != 1 || placesOf(m.Frames()) != "0:10" {
				t.Errorf("%s: %s", about, whole(m))
			}
		}
	}
}

// P17.1: of an element that is set, the index's value comes first, then the value, and last whether there is such an element.
func TestP171ElementOrder(t *testing.T) {
	div, index, out := traps()[api.TrapDiv], traps()[api.TrapIndex], number(api.W32, 99)
	for _, row := range []struct {
		index, value api.Expr
		trap         int
	}{
		{div, index, api.TrapDiv}, {index, div, api.TrapIndex}, {out, div, api.TrapDiv}, {out, index, api.TrapIndex}, {out, out, api.TrapIndex},
		{number(api.W32, -1), div, api.TrapDiv}, {number(api.W32, -1), out, api.TrapIndex}, {div, out, api.TrapDiv},
	} {
		wantPut(t, mainOf(setCell(2, 3, 1, row.index, row.value)), row.trap)
	}
	for i := int64(-3); i <= 9; i++ {
		m := machine(t, mainOf(setCell(2, 3, 1, number(api.W32, i), number(api.W32, 77))))
		m.Run(9)
		want := make([]int32, 8)
		end := "TrapIndex 1"
		if i >= 0 && i < 3 {
			want[2+i], end = 77, "Halted 2"
		}
		wantTold(t, "words", m.Words(), want)
		if ending(m) != end {
			t.Errorf("index %d: %s, want %s", i, ending(m), end)
		}
	}
}
