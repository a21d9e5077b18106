package fold_test

import (
	"reflect"
	"slices"
	"testing"

	"plover/api"
	"plover/fold"
)

// odd makes programs and expressions that no other layer makes.
type odd struct {
	dice
}

// number answers a number; most are such that mean something.
func (o *odd) number() int {
	switch o.below(12) {
	case 0:
		return -1 - o.below(3)
	case 1:
		return int(uint64(1) << 62 >> o.below(63))
	case 2:
		return -1 << 63 >> o.below(63)
	}
	return o.below(32)
}

// fill gives a value any numbers, names and lists; most expressions are operators, or numbers.
func (o *odd) fill(v reflect.Value, deep int) {
	switch v.Kind() {
	case reflect.Int, reflect.Int64:
		v.SetInt(int64(o.number()))
	case reflect.String:
		v.SetString([]string{"main", "f", "x", "", "s.p", "\x00"}[o.below(6)])
	case reflect.Slice:
		many := o.below(4)
		if deep <= 0 {
			many = 0
		}
		if many == 0 && o.below(2) == 0 {
			return
		}
		v.Set(reflect.MakeSlice(v.Type(), many, many+o.below(2)))
		for i := range many {
			o.fill(v.Index(i), deep)
		}
	case reflect.Struct:
		for i := range v.NumField() {
			o.fill(v.Field(i), deep-1)
		}
		if e, is := v.Interface().(api.Expr); is {
			v.Set(reflect.ValueOf(o.mended(e)))
		}
	}
}

// mended makes of most expressions numbers, or operators with as many values as they should have.
func (o *odd) mended(e api.Expr) api.Expr {
	switch o.below(4) {
	case 0:
		return e
	case 1:
		e.Op = api.ENum
	default:
		if len(e.Args) == 1 {
			e.Op = api.ENeg + o.below(api.EMul-api.ENeg)
		} else if len(e.Args) == 2 {
			e.Op = api.EMul + o.below(api.EParen-api.EMul)
		}
	}
	e.Type = o.below(5) - 1
	return e
}

// P1, P7.2, P7.3: any expressions, of any kinds, types and numbers of values: as reckoned; not longer; they stay, and so does what was handed in.
func TestP1OddExpressions(t *testing.T) {
	changed := 0
	for seed := range 6000 {
		o := &odd{dice: dice(seed)}
		var e api.Expr
		o.fill(reflect.ValueOf(&e).Elem(), 1+seed%7)
		before := told(e)
		got := fold.Fold(e)
		wantTold(t, before, got, reckonedFold(e))
		wantTold(t, "what was handed in", told(e), before)
		wantTold(t, "folded again", fold.Fold(got), got)
		if length(got) > length(e) {
			t.Errorf("%s is longer than %s", told(got), before)
		}
		if told(got) != before {
			changed++
		}
		if t.Failed() {
			return
		}
	}
	if changed < 1500 {
		t.Errorf("only %d were changed", changed)
	}
}

// room is the memory of a list, with what is behind its end.
type room struct {
	from, to uintptr
}

// roomsOf tells the memory of all lists of a value.
func roomsOf(v reflect.Value) []room {
	var all []room
	switch v.Kind() {
	case reflect.Slice:
		if v.Cap() > 0 {
			all = append(all, room{v.Pointer(), v.Pointer() + uintptr(v.Cap())*v.Type().Elem().Size()})
		}
		for i := range v.Len() {
			all = append(all, roomsOf(v.Index(i))...)
		}
	case reflect.Struct:
		for i := range v.NumField() {
			all = append(all, roomsOf(v.Field(i))...)
		}
	}
	return all
}

// wantApart fails if two of these share memory.
func wantApart(t *testing.T, all []room) {
	t.Helper()
	slices.SortFunc(all, func(a, b room) int { return int(int64(a.from) - int64(b.from)) })
	for i := range all[1:] {
		if all[i].to > all[i+1].from {
			t.Fatalf("lists share memory: %v", all[i:i+2])
		}
	}
}

// P7.2: what is answered is new memory, and no two lists of it share any.
func TestP72ListsApart(t *testing.T) {
	p := checked(t, wholeText)
	first, second := fold.Prog(p), fold.Prog(p)
	all := roomsOf(reflect.ValueOf(first))
	if len(all) < 35 {
		t.Errorf("only %d lists", len(all))
	}
	for _, other := range []api.Prog{p, second, fold.Prog(first)} {
		all = append(all, roomsOf(reflect.ValueOf(other))...)
	}
	e := ofText(t, "a[b[x + 1 * 1]] + -(v + 2) * (3 + 4)")
	folded := fold.Fold(e)
	for _, other := range []api.Expr{e, folded, fold.Fold(e), fold.Fold(folded)} {
		all = append(all, roomsOf(reflect.ValueOf(other))...)
	}
	wantApart(t, all)
}

// P7.2: lists that are shared in what is handed in are not in what is answered.
func TestP72SharedLists(t *testing.T) {
	both := []api.Expr{local(api.W16, 1), with(api.EAdd, api.W16, 2, num(api.W16, 3, 1), num(api.W16, 4, 2))}
	left, right := with(api.EMul, api.W16, 5, both...), with(api.EAdd, api.W16, 6, both...)
	e := with(api.ESub, api.W16, 7, left, right)
	before := told(e)
	got := fold.Fold(e)
	wantTold(t, "what was handed in", told(e), before)
	wantTold(t, "both sides", got.Args[0].Args, got.Args[1].Args)
	wantApart(t, roomsOf(reflect.ValueOf(got)))

	fields := []api.Param{{Name: "p", Type: api.W16}}
	body := []api.Stmt{{Op: api.SOut, E: []api.Expr{e}}, {Op: api.SOut, E: both}}
	block := []api.Stmt{{Op: api.SIf, E: both, Body: body, Else: body}}
	p := api.Prog{Structs: []api.Struct{{Fields: fields}, {Fields: fields}}, Funcs: []api.Func{{Params: fields, Body: block}, {Params: fields, Body: block}}}
	before = told(p)
	folded := fold.Prog(p)
	wantTold(t, "the program", told(p), before)
	wantTold(t, "both functions", folded.Funcs[0], folded.Funcs[1])
	wantApart(t, roomsOf(reflect.ValueOf(folded)))
}

// spoilt changes all numbers and texts of a value, also within its lists, and puts things behind those, into their room.
func spoilt(v reflect.Value) {
	switch v.Kind() {
	case reflect.Int, reflect.Int64:
		v.SetInt(v.Int() + 1000)
	case reflect.String:
		v.SetString("spoilt")
	case reflect.Slice:
		for i := range v.Len() {
			spoilt(v.Index(i))
		}
		v.Set(reflect.Append(v, reflect.Zero(v.Type().Elem())))
	case reflect.Struct:
		for i := range v.NumField() {
			spoilt(v.Field(i))
		}
	}
}

// P7.2: to change an answer changes nothing in what was handed in, nor in later answers; the other way round, too.
func TestP72AnswersAreTheCallers(t *testing.T) {
	p := checked(t, wholeText)
	before := told(p)
	got := fold.Prog(p)
	want := told(got)
	spoilt(reflect.ValueOf(&got).Elem())
	wantTold(t, "the program", told(p), before)
	got = fold.Prog(p)
	wantTold(t, "once more", told(got), want)
	spoilt(reflect.ValueOf(&p).Elem())
	wantTold(t, "the answer", told(got), want)

	e := ofText(t, "a[b[x + 1 * 1]] + -(v + 2) * (3 + 4)")
	before = told(e)
	folded := fold.Fold(e)
	want = told(folded)
	spoilt(reflect.ValueOf(&folded).Elem())
	wantTold(t, "the expression", told(e), before)
	folded = fold.Fold(e)
	spoilt(reflect.ValueOf(&e).Elem())
	wantTold(t, "the answer", told(folded), want)
}

// nested is a value within so many operators, each of which has that number, too, if it is one of two.
func nested(op, typ, deep int, inner api.Expr, n int64) api.Expr {
	for range deep {
		args := []api.Expr{inner, num(typ, 6, n)}
		if op < api.EMul {
			args = args[:1]
		}
		inner = with(op, typ, 5, args...)
	}
	return inner
}

// P1, P7.2: trees of the most nesting of which the document promises something.
func TestP1Deep(t *testing.T) {
	const deep = 1<<16 - 8
	for op, want := range map[int]int64{api.ENeg: 7, api.ENot: 7, api.EW32: 7, api.EAdd: 7 + 3*deep, api.EXor: 7, api.EShl: 0, api.EEq: 0} {
		wantTold(t, "numbers alone", fold.Fold(nested(op, api.W32, deep, num(api.W32, 6, 7), 3)), num(api.W32, 5, want))
		e := fold.Fold(nested(op, api.W32, deep, local(api.W32, 2), 3))
		for range deep {
			e = e.Args[0]
		}
		wantTold(t, "the innermost", e, local(api.W32, 2))
	}
	body := []api.Stmt{{Op: api.SOut, E: []api.Expr{with(api.EAdd, api.W16, 3, num(api.W16, 1, 40000), num(api.W16, 5, 5))}}}
	for i := range deep {
		if i%2 == 0 {
			body = []api.Stmt{{Op: api.SWhile, Body: body}}
		} else {
			body = []api.Stmt{{Op: api.SIf, Else: body}}
		}
	}
	body = fold.Prog(api.Prog{Funcs: []api.Func{{Body: body}}}).Funcs[0].Body
	for range deep {
		body = append(body[0].Body, body[0].Else...)
	}
	wantTold(t, "the innermost statement", body[0].E, []api.Expr{num(api.W16, 3, -25531)})
}

// P1, P7.2: rows as long as a text may be.
func TestP1Long(t *testing.T) {
	text := expressionAhead + "1"
	for len(text) < api.MaxText-20 {
		text += "+1"
	}
	e := checked(t, text+"; }").Funcs[1].Body[0].E[0]
	many := int64(length(e)+1) / 2
	wantTold(t, "a row of numbers", fold.Fold(e), num(api.W32, e.At, many))
	p := checked(t, text+"+x; }")
	got := fold.Prog(p).Funcs[1].Body[0].E[0]
	if typed(got) != "("+typed(num(api.W16, 0, many))+" +:16 x:16)" {
		t.Errorf("%.300s", typed(got))
	}
	p = checked(t, expressionAhead+"x"+text[len(expressionAhead)+1:]+"; }")
	if got := fold.Prog(p); told(got) != told(p) {
		t.Error("a row behind a variable is another one")
	}
}
