package mean_test

import (
	"fmt"
	"math"
	"strings"
	"testing"

	"plover/api"
	"plover/list"
	"plover/mean"
	"plover/parse"
	"plover/scope"
	"plover/types"
)

// This is what the tests hold machines with: lists of texts, or laid step by step, inputs, and what a machine told, written down; and arithmetic of the tests' own.

// dice throws the same numbers for the same seed.
type dice uint64

func (d *dice) below(n int) int {
	*d = *d*6364136223846793005 + 1442695040888963407
	return int(uint64(*d) >> 33 % uint64(n))
}

func (d *dice) pick(all ...string) string {
	return all[d.below(len(all))]
}

func pins(at int, v uint8) api.Input {
	return api.Input{At: at, Kind: 0, Val: v}
}

func byteAt(at int, v uint8) api.Input {
	return api.Input{At: at, Kind: 1, Val: v}
}

func masked(at int, v uint8) api.Input {
	return api.Input{At: at, Kind: 2, Val: v}
}

// told writes a thing down; lists that are empty, and none, look the same.
func told(p any) string {
	return fmt.Sprintf("%+v", p)
}

// wantTold fails unless two things are the same when they are written down.
func wantTold(t testing.TB, about string, got, want any) {
	t.Helper()
	if told(got) != told(want) {
		t.Errorf("%.1500s:\n got %.4000s\nwant %.4000s", about, told(got), told(want))
	}
}

// checked answers the names of a text's program, resolved and checked.
func checked(t testing.TB, text string) scope.Names {
	t.Helper()
	p, err := parse.Parse(text)
	if err != nil {
		t.Fatalf("%.1500q: %v (%+v), want a program", text, err, err)
	}
	n, err := scope.Resolve(p)
	if err == nil {
		n, err = types.Check(n)
	}
	if err != nil {
		t.Fatalf("%.1500q: %v (%+v), want names", text, err, err)
	}
	return n
}

// listed answers the list of names.
func listed(t testing.TB, n scope.Names) api.List {
	t.Helper()
	l, err := list.Make(n)
	if err != nil {
		t.Fatalf("%v, want a list", err)
	}
	return l
}

// ofText answers the list of a text's program.
func ofText(t testing.TB, text string) api.List {
	t.Helper()
	return listed(t, checked(t, text))
}

// machine answers a machine of a list, that there is.
func machine(t testing.TB, l api.List, in ...api.Input) *mean.Machine {
	t.Helper()
	m := mean.New(l, in)
	if m == nil {
		t.Fatalf("%.1500v with %v: no machine", told(l), in)
	}
	return m
}

// whole writes down all that a machine tells.
func whole(m *mean.Machine) string {
	return told([]any{m.Cycle(), m.Outcome(), m.Line(), m.Frames(), m.Words(), m.Bank(), m.Critical(), m.Mask(), m.Events()})
}

// happened writes events down: "4 in 0, 5 0=7, 6 back 0": the handler of 0 was entered at 4, 7 was written to the register 0 at 5, that handler was left at 6.
func happened(all []api.Event) string {
	var each []string
	for _, e := range all {
		switch e.Kind {
		case 0:
			each = append(each, fmt.Sprintf("%d %d=%d", e.At, e.A, e.B))
		case 1:
			each = append(each, fmt.Sprintf("%d in %d", e.At, e.A))
		case 2:
			each = append(each, fmt.Sprintf("%d back %d", e.At, e.A))
		}
		if e.Kind < 0 || e.Kind > 2 || e.Kind > 0 && e.B != 0 {
			each = append(each, told(e))
		}
	}
	return strings.Join(each, ", ")
}

// ending writes down how a machine is, and how many cycles it did: "Halted 7".
func ending(m *mean.Machine) string {
	names := []string{"runs", "Halted", "TrapDiv", "TrapIndex", "TrapStack", "TrapCode", "FuelOut"}
	if m.Outcome() < 0 || m.Outcome() >= len(names) {
		return fmt.Sprint("outcome ", m.Outcome())
	}
	return fmt.Sprint(names[m.Outcome()], " ", m.Cycle())
}

// story writes down what a machine told, and how it is.
func story(m *mean.Machine) string {
	if len(m.Events()) == 0 {
		return ending(m)
	}
	return happened(m.Events()) + "; " + ending(m)
}

// wantStory runs a text's program for up to so many cycles, and fails unless that is what it tells.
func wantStory(t *testing.T, text string, n int, want string, in ...api.Input) *mean.Machine {
	t.Helper()
	m := machine(t, ofText(t, text), in...)
	m.Run(n)
	if got := story(m); got != want {
		t.Errorf("%s with %v:\n got %s\nwant %s", text, in, got, want)
	}
	return m
}

// placesOf writes down where frames are: "main's unit:step", others by their vector, as "1:0(on 3)", "1:0(on 3 asleep)".
func placesOf(all []mean.Frame) string {
	var each []string
	for _, f := range all {
		place := fmt.Sprintf("%d:%d", f.Unit, f.Step)
		switch {
		case f.Asleep:
			place += fmt.Sprintf("(on %d asleep)", f.Vector)
		case f.Vector != -1:
			place += fmt.Sprintf("(on %d)", f.Vector)
		}
		each = append(each, place)
	}
	return strings.Join(each, " ")
}

func number(typ int, n int64) api.Expr {
	return api.Expr{Op: api.ENum, Type: typ, N: n}
}

func local(typ, ref int) api.Expr {
	return api.Expr{Op: api.ELocal, Type: typ, Ref: ref}
}

func word(typ, ref int) api.Expr {
	return api.Expr{Op: api.EWord, Type: typ, Ref: ref}
}

func cell(typ, ref, n int, index api.Expr) api.Expr {
	return api.Expr{Op: api.ECell, Type: typ, Ref: ref, N: int64(n), Args: []api.Expr{index}}
}

func operator(op, typ int, args ...api.Expr) api.Expr {
	return api.Expr{Op: op, Type: typ, Args: args}
}

// step is a step that sets nothing, and goes on at the next place.
func step(op, next int, e ...api.Expr) api.Step {
	return api.Step{Op: op, Line: 1, Var: -1, Addr: -1, Next: next, Else: -1, E: e}
}

// mainOf answers a list of main alone, with three locals, eight words, and those steps, behind which it ends.
func mainOf(steps ...api.Step) api.List {
	end := step(api.StepEnd, -1)
	locals := []api.Local{{Name: "x", Type: api.W16}, {Name: "y", Type: api.W32}, {Name: "z", Type: api.W32}}
	return api.List{Size: 8, Units: []api.Unit{{Name: "main", Vector: -1, Locals: locals, Steps: append(steps, end)}}}
}

// wrapped answers a number wrapped to a type, by remainders.
func wrapped(typ int, v int64) int64 {
	all := int64(1 << 32)
	if typ == 1 {
		all = 1 << 16
	}
	v = (v%all + all) % all
	if v >= all/2 {
		v -= all
	}
	return v
}

func truth(is bool) int64 {
	if is {
		return 1
	}
	return 0
}

// one answers what an operator of one value makes.
func one(op, typ int, a int64) int64 {
	switch op {
	case 4:
		return wrapped(typ, -a)
	case 5:
		return -1 - a
	case 6:
		return truth(a == 0)
	case 7:
		return wrapped(1, a)
	}
	return a
}

// two answers what an operator of two values makes; false, if nothing.
func two(op, typ int, a, b int64) (int64, bool) {
	shift := (b%32 + 32) % 32
	if typ == 1 {
		shift %= 16
	}
	if b == 0 && (op == 10 || op == 11) {
		return 0, false
	}
	switch op {
	case 9:
		return wrapped(typ, a*b), true
	case 10:
		return wrapped(typ, a/b), true
	case 11:
		return a - b*(a/b), true
	case 12:
		return wrapped(typ, a+b), true
	case 13:
		return wrapped(typ, a-b), true
	case 14:
		return wrapped(typ, a*int64(math.Pow(2, float64(shift)))), true
	case 15:
		return int64(math.Floor(float64(a) / math.Pow(2, float64(shift)))), true
	case 22:
		return bitwise(a, b, func(p, q int64) bool { return p+q == 2 }), true
	case 23:
		return bitwise(a, b, func(p, q int64) bool { return p+q == 1 }), true
	case 24:
		return bitwise(a, b, func(p, q int64) bool { return p+q >= 1 }), true
	}
	return truth([]bool{a < b, a <= b, a > b, a >= b, a == b, a != b}[op-16]), true
}

// bitwise answers the number of 32 bits whose bits are told by those of a and b.
func bitwise(a, b int64, is func(p, q int64) bool) int64 {
	a, b = (a+1<<32)%(1<<32), (b+1<<32)%(1<<32)
	sum := int64(0)
	for bit := int64(1); bit < 1<<32; bit *= 2 {
		sum += bit * truth(is(a/bit%2, b/bit%2))
	}
	return wrapped(2, sum)
}
