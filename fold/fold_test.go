package fold_test

import (
	"fmt"
	"math"
	"testing"

	"plover/api"
	"plover/fold"
)

// allTypes are both types, and types that are neither.
func allTypes() []int {
	return []int{api.W16, api.W32, api.NoType, api.Free, -1, 4, 16, 17, math.MaxInt, math.MinInt}
}

// ends are numbers at which something changes: the ends of both types, and what stands beside them, counts of shifts, and some in between.
func ends() []int32 {
	var all []int32
	for _, n := range []int64{0, 1, 2, 3, 7, 8, 14, 15, 16, 17, 30, 31, 32, 33, 48, 63, 64, 181, 182, 255, 256, 4464, 32766, 32767, 32768, 32769, 40000, 46340, 46341, 65535, 65536, 65537, 70000, 1 << 30, 1<<31 - 2, 1<<31 - 1, 1 << 31} {
		if n < 1<<31 {
			all = append(all, int32(n))
		}
		if n > 0 {
			all = append(all, int32(-n))
		}
	}
	return all
}

// allOperators are all kinds of expressions, and numbers that are none.
func allOperators() []int {
	all := []int{-1 << 40, -2, -1, api.LastExpr + 1, api.LastExpr + 2, 1 << 40}
	for op := 0; op <= api.LastExpr; op++ {
		all = append(all, op)
	}
	return all
}

// dice answers numbers below n, the same ones each time.
type dice uint64

func (d *dice) below(n int) int {
	return int(d.any() >> 33 % uint64(n))
}

func (d *dice) any() uint64 {
	*d = *d*6364136223846793005 + 1442695040888963407
	return uint64(*d)
}

// wide answers a number of so many bits at most, with a sign.
func (d *dice) wide() int64 {
	high := d.any() >> 32
	return int64(high<<32|d.any()>>32) >> d.below(64)
}

func wantWrap(t *testing.T, typ int, v int64, want int32) {
	t.Helper()
	if got := fold.Wrap(typ, v); got != want {
		t.Errorf("Wrap(%d, %d): %d, want %d", typ, v, got, want)
	}
}

func wantUn(t *testing.T, op, typ int, a, want int32) {
	t.Helper()
	if got := fold.Un(op, typ, a); got != want {
		t.Errorf("Un(%d, %d, %d): %d, want %d", op, typ, a, got, want)
	}
}

func wantBin(t *testing.T, op, typ int, a, b, want int32, wantIs bool) {
	t.Helper()
	got, is := fold.Bin(op, typ, a, b)
	if got != want || is != wantIs {
		t.Errorf("Bin(%d, %d, %d, %d): %d, %v, want %d, %v", op, typ, a, b, got, is, want, wantIs)
	}
}

// P7.1: the chapter's examples.
func TestP71Examples(t *testing.T) {
	wantWrap(t, api.W16, 32768, -32768)
	wantWrap(t, api.W16, 65535, -1)
	wantWrap(t, api.W16, -32769, 32767)
	wantBin(t, api.EDiv, api.W16, -32768, -1, -32768, true)
	wantBin(t, api.EDiv, api.W32, 7, -2, -3, true)
	for _, typ := range allTypes() {
		wantBin(t, api.ERem, typ, -7, 2, -1, true)
		wantBin(t, api.ELt, typ, 3, 4, 1, true)
		wantBin(t, api.EDiv, typ, 5, 0, 0, false)
	}
	wantBin(t, api.EShr, api.W16, -5, 17, -3, true)
	wantBin(t, api.EShl, api.W16, 1, 15, -32768, true)
}

// P7.1: numbers wrapped to w16, to w32, and to what is neither, which is as w32.
func TestP71WrapRows(t *testing.T) {
	for v, want := range map[int64][2]int32{
		0: {0, 0}, 1: {1, 1}, -1: {-1, -1}, 32767: {32767, 32767}, -32768: {-32768, -32768}, 32768: {-32768, 32768}, -32769: {32767, -32769}, 40000: {-25536, 40000}, -40000: {25536, -40000},
		65535: {-1, 65535}, 65536: {0, 65536}, 65537: {1, 65537}, -65535: {1, -65535}, -65536: {0, -65536}, 98303: {32767, 98303}, 98304: {-32768, 98304}, 70000: {4464, 70000},
		1<<31 - 1: {-1, math.MaxInt32}, 1 << 31: {0, math.MinInt32}, 1<<31 + 1: {1, math.MinInt32 + 1}, -1 << 31: {0, math.MinInt32}, -1<<31 - 1: {-1, math.MaxInt32}, 1<<32 - 1: {-1, -1}, 1 << 32: {0, 0}, 1<<32 + 1: {1, 1},
		-1 << 32: {0, 0}, -1<<32 - 1: {-1, -1}, 3 << 31: {0, math.MinInt32}, 4000000000: {10240, -294967296}, math.MaxInt64: {-1, -1}, math.MinInt64: {0, 0}, math.MinInt64 + 1: {1, 1}, math.MaxInt64 - 32768: {32767, -32769},
		math.MaxInt64 - 1<<31: {-1, math.MaxInt32}, 1 << 62: {0, 0}, 1<<40 + 5: {5, 5},
	} {
		for _, typ := range allTypes() {
			if typ == api.W16 {
				wantWrap(t, typ, v, want[0])
			} else {
				wantWrap(t, typ, v, want[1])
			}
		}
	}
}

// P7.1: numbers around all powers of two, and any numbers, against the tests' own reckoning.
func TestP71Wrap(t *testing.T) {
	d := dice(1)
	for _, typ := range allTypes() {
		for bit := range 64 {
			for beside := int64(-3); beside <= 3; beside++ {
				v := int64(1<<bit) + beside
				wantWrap(t, typ, v, reckonedWrap(typ, v))
				wantWrap(t, typ, -v, reckonedWrap(typ, -v))
			}
		}
		for range 3000 {
			v := d.wide()
			wantWrap(t, typ, v, reckonedWrap(typ, v))
		}
	}
}

// P7.1: operators of one value, at both ends of both types, and of numbers that a type has not.
func TestP71UnRows(t *testing.T) {
	for a, want := range map[int32]map[int][2]int32{ // of w16, and of all else
		0:             {api.ENeg: {0, 0}, api.ENot: {-1, -1}, api.EZero: {1, 1}, api.EW16: {0, 0}, api.EW32: {0, 0}},
		1:             {api.ENeg: {-1, -1}, api.ENot: {-2, -2}, api.EZero: {0, 0}, api.EW16: {1, 1}, api.EW32: {1, 1}},
		-1:            {api.ENeg: {1, 1}, api.ENot: {0, 0}, api.EZero: {0, 0}, api.EW16: {-1, -1}, api.EW32: {-1, -1}},
		32767:         {api.ENeg: {-32767, -32767}, api.ENot: {-32768, -32768}, api.EZero: {0, 0}, api.EW16: {32767, 32767}, api.EW32: {32767, 32767}},
		-32768:        {api.ENeg: {-32768, 32768}, api.ENot: {32767, 32767}, api.EZero: {0, 0}, api.EW16: {-32768, -32768}, api.EW32: {-32768, -32768}},
		-32769:        {api.ENeg: {-32767, 32769}, api.ENot: {32768, 32768}, api.EZero: {0, 0}, api.EW16: {32767, 32767}, api.EW32: {-32769, -32769}},
		32768:         {api.ENeg: {-32768, -32768}, api.ENot: {-32769, -32769}, api.EZero: {0, 0}, api.EW16: {-32768, -32768}, api.EW32: {32768, 32768}},
		65536:         {api.ENeg: {0, -65536}, api.ENot: {-65537, -65537}, api.EZero: {0, 0}, api.EW16: {0, 0}, api.EW32: {65536, 65536}},
		70000:         {api.ENeg: {-4464, -70000}, api.ENot: {-70001, -70001}, api.EZero: {0, 0}, api.EW16: {4464, 4464}, api.EW32: {70000, 70000}},
		math.MaxInt32: {api.ENeg: {1, -math.MaxInt32}, api.ENot: {math.MinInt32, math.MinInt32}, api.EZero: {0, 0}, api.EW16: {-1, -1}, api.EW32: {math.MaxInt32, math.MaxInt32}},
		math.MinInt32: {api.ENeg: {0, math.MinInt32}, api.ENot: {math.MaxInt32, math.MaxInt32}, api.EZero: {0, 0}, api.EW16: {0, 0}, api.EW32: {math.MinInt32, math.MinInt32}},
	} {
		for op, made := range want {
			for _, typ := range allTypes() {
				if typ == api.W16 {
					wantUn(t, op, typ, a, made[0])
				} else {
					wantUn(t, op, typ, a, made[1])
				}
			}
		}
	}
}

// P7.1: all operators, and what is none of one value (a stays), of all types, at all ends, and of any numbers, against the tests' own reckoning.
func TestP71Un(t *testing.T) {
	d := dice(2)
	for _, op := range allOperators() {
		for _, typ := range allTypes() {
			for _, a := range ends() {
				wantUn(t, op, typ, a, reckonedUn(op, typ, a))
			}
			for range 100 {
				a := int32(d.wide())
				wantUn(t, op, typ, a, reckonedUn(op, typ, a))
			}
		}
	}
}

// binRow is what an operator of two makes, of w16, and of all else.
type binRow struct {
	op, a, b int
	narrow   int
	wide     int
}

func binRows() []binRow {
	const most, least = math.MaxInt32, math.MinInt32
	return []binRow{
		{api.EMul, 7, -6, -42, -42}, {api.EMul, 181, 182, -32594, 32942}, {api.EMul, 256, 256, 0, 65536}, {api.EMul, -32768, -1, -32768, 32768}, {api.EMul, -32768, -32768, 0, 1 << 30}, {api.EMul, 46341, 46341, 4633, -2147479015},
		{api.EMul, least, -1, 0, least}, {api.EMul, least, least, 0, 0}, {api.EMul, most, most, 1, 1}, {api.EMul, 70000, 3, 13392, 210000}, {api.EMul, most, 2, -2, -2}, {api.EMul, most, least, 0, least},
		{api.EDiv, 7, 2, 3, 3}, {api.EDiv, -7, 2, -3, -3}, {api.EDiv, 7, -2, -3, -3}, {api.EDiv, -7, -2, 3, 3}, {api.EDiv, 1, 2, 0, 0}, {api.EDiv, -1, 2, 0, 0}, {api.EDiv, 0, -5, 0, 0}, {api.EDiv, -32768, -1, -32768, 32768},
		{api.EDiv, -32767, -1, 32767, 32767}, {api.EDiv, least, -1, 0, least}, {api.EDiv, most, -1, 1, -most}, {api.EDiv, 70000, 1, 4464, 70000}, {api.EDiv, least, least, 1, 1}, {api.EDiv, -65536, -1, 0, 65536},
		{api.ERem, 7, 2, 1, 1}, {api.ERem, -7, 2, -1, -1}, {api.ERem, 7, -2, 1, 1}, {api.ERem, -7, -2, -1, -1}, {api.ERem, 5, 9, 5, 5}, {api.ERem, -32768, -1, 0, 0}, {api.ERem, least, -1, 0, 0}, {api.ERem, most, -1, 0, 0},
		{api.ERem, least, most, -1, -1}, {api.ERem, most, least, most, most}, {api.ERem, 40000, 50000, 40000, 40000}, {api.ERem, 0, -1, 0, 0}, {api.ERem, 6, 3, 0, 0}, {api.ERem, -100000, 65536, -34464, -34464},
		{api.EAdd, 2, 3, 5, 5}, {api.EAdd, 32767, 1, -32768, 32768}, {api.EAdd, -32768, -1, 32767, -32769}, {api.EAdd, most, 1, 0, least}, {api.EAdd, least, -1, -1, most}, {api.EAdd, 70000, 0, 4464, 70000}, {api.EAdd, least, least, 0, 0},
		{api.ESub, 2, 3, -1, -1}, {api.ESub, -32768, 1, 32767, -32769}, {api.ESub, 32767, -1, -32768, 32768}, {api.ESub, least, 1, -1, most}, {api.ESub, 0, least, 0, least}, {api.ESub, most, -1, 0, least}, {api.ESub, 0, -32768, -32768, 32768},
		{api.EShl, 1, 0, 1, 1}, {api.EShl, 1, 14, 16384, 16384}, {api.EShl, 1, 15, -32768, 32768}, {api.EShl, 1, 16, 1, 65536}, {api.EShl, 1, 17, 2, 131072}, {api.EShl, 1, 31, -32768, least}, {api.EShl, 1, 32, 1, 1}, {api.EShl, 3, 33, 6, 6},
		{api.EShl, 1, -1, -32768, least}, {api.EShl, 1, -16, 1, 65536}, {api.EShl, 1, -31, 2, 2}, {api.EShl, 1, -32, 1, 1}, {api.EShl, -1, 4, -16, -16}, {api.EShl, 3, 15, -32768, 98304}, {api.EShl, most, 31, -32768, least},
		{api.EShl, 1, least, 1, 1}, {api.EShl, 1, most, -32768, least}, {api.EShl, 70000, 0, 4464, 70000}, {api.EShl, least, 1, 0, 0}, {api.EShl, 5, 65537, 10, 10},
		{api.EShr, 5, 1, 2, 2}, {api.EShr, -5, 1, -3, -3}, {api.EShr, -5, 17, -3, -1}, {api.EShr, -1, 31, -1, -1}, {api.EShr, -32768, 15, -1, -1}, {api.EShr, 32767, 15, 0, 0}, {api.EShr, 32767, 16, 32767, 0}, {api.EShr, 9, 32, 9, 9},
		{api.EShr, 9, -1, 0, 0}, {api.EShr, -9, -1, -1, -1}, {api.EShr, -9, -16, -9, -1}, {api.EShr, 100, -30, 25, 25}, {api.EShr, 70000, 0, 70000, 70000}, {api.EShr, 70000, 1, 35000, 35000}, {api.EShr, least, 31, -65536, -1}, {api.EShr, most, 30, 131071, 1},
		{api.ELt, 3, 4, 1, 1}, {api.ELt, 4, 4, 0, 0}, {api.ELt, 5, 4, 0, 0}, {api.ELt, least, most, 1, 1}, {api.ELt, 65536, 1, 0, 0}, {api.ELt, -1, 0, 1, 1},
		{api.ELe, 3, 4, 1, 1}, {api.ELe, 4, 4, 1, 1}, {api.ELe, 5, 4, 0, 0}, {api.ELe, most, least, 0, 0}, {api.ELe, 65536, 0, 0, 0},
		{api.EGt, 3, 4, 0, 0}, {api.EGt, 4, 4, 0, 0}, {api.EGt, 5, 4, 1, 1}, {api.EGt, most, least, 1, 1}, {api.EGt, 65536, 0, 1, 1},
		{api.EGe, 3, 4, 0, 0}, {api.EGe, 4, 4, 1, 1}, {api.EGe, 5, 4, 1, 1}, {api.EGe, least, most, 0, 0}, {api.EGe, 0, 65536, 0, 0},
		{api.EEq, 3, 4, 0, 0}, {api.EEq, 4, 4, 1, 1}, {api.EEq, 65536, 0, 0, 0}, {api.EEq, least, least, 1, 1}, {api.EEq, -1, 65535, 0, 0},
		{api.ENe, 3, 4, 1, 1}, {api.ENe, 4, 4, 0, 0}, {api.ENe, 65536, 0, 1, 1}, {api.ENe, most, most, 0, 0}, {api.ENe, -1, 65535, 1, 1},
		{api.EAnd, 12, 10, 8, 8}, {api.EAnd, -1, 70000, 70000, 70000}, {api.EAnd, -32768, 32767, 0, 0}, {api.EAnd, least, -1, least, least}, {api.EAnd, -4, -6, -8, -8},
		{api.EXor, 12, 10, 6, 6}, {api.EXor, -1, 0, -1, -1}, {api.EXor, -1, -1, 0, 0}, {api.EXor, least, -1, most, most}, {api.EXor, 70000, 1, 70001, 70001},
		{api.EOr, 12, 10, 14, 14}, {api.EOr, -32768, 32767, -1, -1}, {api.EOr, least, most, -1, -1}, {api.EOr, 65536, 1, 65537, 65537}, {api.EOr, 0, 0, 0, 0},
	}
}

// P7.1: operators of two, at both ends of both types, of numbers that a type has not, of counts below 0 and above a type's bits.
func TestP71BinRows(t *testing.T) {
	for _, row := range binRows() {
		for _, typ := range allTypes() {
			want := row.wide
			if typ == api.W16 {
				want = row.narrow
			}
			wantBin(t, row.op, typ, int32(row.a), int32(row.b), int32(want), true)
		}
	}
}

// P7.1: 0 and false of divisions by 0, and of nothing else.
func TestP71DivisionByZero(t *testing.T) {
	for _, op := range allOperators() {
		for _, typ := range allTypes() {
			for _, a := range ends() {
				got, is := fold.Bin(op, typ, a, 0)
				if op == api.EDiv || op == api.ERem {
					if got != 0 || is {
						t.Errorf("Bin(%d, %d, %d, 0): %d, %v", op, typ, a, got, is)
					}
				} else if !is {
					t.Errorf("Bin(%d, %d, %d, 0): false", op, typ, a)
				}
			}
		}
	}
}

// P7.1: all operators, and what is none of two values (0), of all types, at all ends, and of any numbers, against the tests' own reckoning.
func TestP71Bin(t *testing.T) {
	d := dice(3)
	for _, op := range allOperators() {
		for _, typ := range []int{api.W16, api.W32, api.NoType, -5} {
			for _, a := range ends() {
				for _, b := range ends() {
					want, is := reckonedBin(op, typ, a, b)
					wantBin(t, op, typ, a, b, want, is)
				}
			}
			for range 500 {
				a, b := int32(d.wide()), int32(d.wide())
				want, is := reckonedBin(op, typ, a, b)
				wantBin(t, op, typ, a, b, want, is)
			}
			if t.Failed() {
				return
			}
		}
	}
}

// P7.1: what is made of numbers of a type is a number of it; truths are 0 and 1.
func TestP71StaysInType(t *testing.T) {
	for _, typ := range []int{api.W16, api.W32} {
		for _, a := range ends() {
			for op := api.ENeg; op <= api.EW32; op++ {
				if v := fold.Un(op, typ, fold.Wrap(typ, int64(a))); fold.Wrap(typ, int64(v)) != v {
					t.Errorf("Un(%d, %d, %d): %d is no number of the type", op, typ, a, v)
				}
			}
			for _, b := range ends() {
				a, b := fold.Wrap(typ, int64(a)), fold.Wrap(typ, int64(b))
				for op := api.EMul; op <= api.EOr; op++ {
					v, _ := fold.Bin(op, typ, a, b)
					if fold.Wrap(typ, int64(v)) != v {
						t.Errorf("Bin(%d, %d, %d, %d): %d is no number of the type", op, typ, a, b, v)
					}
					if op >= api.ELt && op <= api.ENe && v != 0 && v != 1 {
						t.Errorf("Bin(%d, %d, %d, %d): %d is no truth", op, typ, a, b, v)
					}
				}
			}
		}
	}
}

// told writes a thing down; lists that are empty, and none, look the same.
func told(p any) string {
	return fmt.Sprintf("%+v", p)
}

// wantTold fails unless two things are the same when they are written down.
func wantTold(t *testing.T, about string, got, want any) {
	t.Helper()
	if told(got) != told(want) {
		t.Errorf("%.800s:\n got %.3000s\nwant %.3000s", about, told(got), told(want))
	}
}
