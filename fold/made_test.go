package fold_test

import (
	"testing"

	"plover/api"
	"plover/fold"
)

// maker makes expressions whose types go together, each at a place of its own.
type maker struct {
	dice
	at     int
	others int // so many of 10 leaves hang on variables
}

func (m *maker) pick(from ...int) int {
	return from[m.below(len(from))]
}

func (m *maker) typ() int {
	return m.pick(api.W16, api.W32)
}

func (m *maker) place() int {
	m.at++
	return m.at
}

// leaf makes a number of a type, or what hangs on a variable.
func (m *maker) leaf(typ int) api.Expr {
	e := api.Expr{Op: api.ENum, At: m.place(), Type: typ}
	if m.below(10) < m.others {
		e.Op, e.Ref = m.pick(api.ELocal, api.EWord), 2*m.below(3)
		if typ == api.W32 {
			e.Ref++
		}
		return e
	}
	all := ends()
	e.N = int64(fold.Wrap(typ, int64(all[m.below(len(all))])))
	if m.below(3) > 0 {
		e.N = int64(m.below(5) - 1)
	}
	return e
}

// cell makes an element of an array of a type: these lie behind the other words.
func (m *maker) cell(typ, deep int) api.Expr {
	e := api.Expr{Op: api.ECell, At: m.place(), Type: typ, Ref: 6, N: 3}
	if typ == api.W32 {
		e.Ref, e.N = 9, 4
	}
	e.Args = []api.Expr{m.expression(m.typ(), deep-1)}
	return e
}

// expression makes one of a type, so deep at most.
func (m *maker) expression(typ, deep int) api.Expr {
	if deep <= 0 {
		return m.leaf(typ)
	}
	op, inner := m.below(api.EOr+2), typ
	switch {
	case op < api.ENeg:
		return m.leaf(typ)
	case op > api.EOr:
		return m.cell(typ, deep)
	case op >= api.ELt && op <= api.ENe, op == api.EZero, op == api.EW16:
		typ, inner = api.W16, m.typ()
	case op == api.EW32:
		typ, inner = api.W32, m.typ()
	}
	e := api.Expr{Op: op, At: m.place(), Type: typ, Args: []api.Expr{m.expression(inner, deep-1)}}
	if op < api.EMul {
		return e
	}
	second := inner
	if op == api.EShl || op == api.EShr {
		second = m.typ()
	}
	e.Args[0] = m.of(inner, e.Args[0])
	e.Args = append(e.Args, m.of(second, m.expression(second, deep-1)))
	return e
}

// of makes what has another type into one of that type, by w16( ), w32( ).
func (m *maker) of(typ int, e api.Expr) api.Expr {
	if e.Type == typ {
		return e
	}
	op := api.EW16
	if typ == api.W32 {
		op = api.EW32
	}
	return api.Expr{Op: op, At: m.place(), Type: typ, Args: []api.Expr{e}}
}

// variables makes values for all that expressions hang on.
func (m *maker) variables() variables {
	var v variables
	all := ends()
	for i := range 13 {
		typ := api.W16
		if i < 6 && i%2 == 1 || i >= 9 {
			typ = api.W32
		}
		value := fold.Wrap(typ, int64(all[m.below(len(all))]))
		if m.below(2) == 0 {
			value = int32(m.below(4) - 1)
		}
		v.words = append(v.words, value)
	}
	v.locals = v.words[:6]
	return v
}

// length tells how many parts an expression has.
func length(e api.Expr) int {
	many := 1
	for _, arg := range e.Args {
		many += length(arg)
	}
	return many
}

// hasNumbersAlone tells whether an operator in an expression, but a division by 0, has numbers alone.
func hasNumbersAlone(e api.Expr) bool {
	numbers, is := 0, false
	for _, arg := range e.Args {
		if arg.Op == api.ENum {
			numbers++
		}
		is = is || hasNumbersAlone(arg)
	}
	byZero := (e.Op == api.EDiv || e.Op == api.ERem) && len(e.Args) == 2 && e.Args[1].N == 0
	isOperator := e.Op >= api.ENeg && e.Op <= api.EOr
	return is || isOperator && numbers == len(e.Args) && !byZero
}

// wantSame fails unless a folded expression is as P7.3 says.
func wantSame(t *testing.T, m *maker, e, folded api.Expr) (traps, values int) {
	t.Helper()
	for range 6 {
		v := m.variables()
		got, want := v.value(folded), v.value(e)
		if got != want {
			t.Fatalf("%s\nis %+v, folded\n%s\nit is %+v, with %+v", typed(e), want, typed(folded), got, v)
		}
		if want.trap != api.Running {
			traps++
		} else {
			values++
		}
	}
	if length(folded) > length(e) {
		t.Errorf("%s\nis longer than\n%s", typed(folded), typed(e))
	}
	if hasNumbersAlone(folded) {
		t.Errorf("%s\nhas an operator with numbers alone", typed(folded))
	}
	wantTold(t, typed(e)+"\nfolded again", fold.Fold(folded), folded)
	return traps, values
}

// P7.2, P7.3: any expressions whose types go together: as reckoned; of the same value, or with the same trap, whatever variables have; not longer; they stay.
func TestP73AnyExpressions(t *testing.T) {
	shorter, whole, traps, values := 0, 0, 0, 0
	for seed := range 12000 {
		m := &maker{dice: dice(seed), others: seed % 4 * 2}
		e := m.expression(m.typ(), 1+seed%6)
		before := told(e)
		folded := fold.Fold(e)
		wantTold(t, typed(e), folded, reckonedFold(e))
		wantTold(t, "what was handed in", told(e), before)
		more, others := wantSame(t, m, e, folded)
		traps, values = traps+more, values+others
		if length(folded) < length(e) {
			shorter++
		}
		if length(e) > 3 && folded.Op == api.ENum {
			whole++
		}
		if t.Failed() {
			return
		}
	}
	if shorter < 5000 || whole < 1000 || traps < 5000 || values < 20000 {
		t.Errorf("%d shorter, %d of them a number, %d traps, %d values", shorter, whole, traps, values)
	}
}

// P7.3: of the document's second and third examples: what traps, traps as it did.
func TestP73Traps(t *testing.T) {
	for text, want := range map[string]int{
		"1 / 0": api.TrapDiv, "1 % (3 - 3)": api.TrapDiv, "a[3]": api.TrapIndex, "a[1 + 2]": api.TrapIndex, "a[-1]": api.TrapIndex, "a[1 / 0]": api.TrapDiv, "a[3] + 1 / 0": api.TrapIndex, "1 / 0 + a[3]": api.TrapDiv,
		"0 * (1 / 0)": api.TrapDiv, "0 & a[5 * 5]": api.TrapIndex, "a[2]": api.Running, "a[1 + 1] + 1": api.Running, "1 / 1": api.Running, "x / 0": api.TrapDiv, "x / (2 - 1)": api.Running,
	} {
		e := ofText(t, text)
		v := variables{locals: make([]int32, 8), words: make([]int32, 16)}
		if got := v.value(fold.Fold(e)); got.trap != want {
			t.Errorf("%s: %+v, want %d", text, got, want)
		}
		if got := v.value(e); got.trap != want {
			t.Errorf("%s, not folded: %+v, want %d", text, got, want)
		}
	}
}

// P7.3: all expressions of two operators over numbers, and what hangs on variables.
func TestP73AllOfTwoOperators(t *testing.T) {
	leaves := func(typ int) []api.Expr {
		return []api.Expr{num(typ, 1, 0), num(typ, 2, -1), {Op: api.EWord, At: 4, Name: "x", Type: typ}}
	}
	m := &maker{dice: 5}
	for _, typ := range []int{api.W16, api.W32} {
		of1 := leaves(typ)
		for _, a := range leaves(typ) {
			of1 = append(of1, over(typ, a, leaves(typ))...)
		}
		for _, e := range of1 {
			for _, deep := range over(typ, e, leaves(typ)) {
				folded := fold.Fold(deep)
				wantTold(t, typed(deep), folded, reckonedFold(deep))
				wantSame(t, m, deep, folded)
			}
			if t.Failed() {
				return
			}
		}
	}
}

// over answers all operators over an expression, those of two with others on either side. What makes a truth has that type, too, so that it may stand in others.
func over(typ int, e api.Expr, others []api.Expr) []api.Expr {
	all := []api.Expr{{Op: api.ECell, At: 8, Name: "b", Type: typ, Ref: 9, N: 4, Args: []api.Expr{e}}}
	for op := api.ENeg; op <= api.EW32; op++ {
		all = append(all, with(op, typ, 9, e))
	}
	for _, other := range others {
		for op := api.EMul; op <= api.EOr; op++ {
			all = append(all, with(op, typ, 9, e, other), with(op, typ, 9, other, e))
		}
	}
	return all
}
