package wire_test

import (
	"bytes"
	"encoding/hex"
	"errors"
	"math"
	"slices"
	"strings"
	"testing"

	"plover/api"
	"plover/wire"
)

// row makes bytes of digits to the base 16, between which blanks may stand.
func row(t *testing.T, digits string) string {
	t.Helper()
	b, err := hex.DecodeString(strings.ReplaceAll(digits, " ", ""))
	if err != nil {
		t.Fatal(err)
	}
	return string(b)
}

// wantRow fails unless the bytes are those of the digits.
func wantRow(t *testing.T, what string, got []byte, digits string) {
	t.Helper()
	if want := row(t, digits); string(got) != want {
		t.Errorf("%s: %x, want %x", what, got, want)
	}
}

// wantFault fails unless err is a fault of that code and place (of OK: no error at all).
func wantFault(t *testing.T, what string, err error, code api.Errno, at int) {
	t.Helper()
	if code == api.OK {
		if err != nil {
			t.Errorf("%s: %v, want no error", what, err)
		}
		return
	}
	f, is := err.(*api.Fault)
	if !is {
		t.Errorf("%s: %T %v, want a *api.Fault %v At %d", what, err, err, code, at)
		return
	}
	if f.Code != code || f.At != at {
		t.Errorf("%s: %v At %d, want %v At %d", what, f.Code, f.At, code, at)
	}
	if !errors.Is(err, code) {
		t.Errorf("%s: %v does not unwrap to %v", what, err, code)
	}
}

type numberRow struct {
	n      uint64
	digits string
}

// numberRows are the edges that the chapter names, and their neighbours.
func numberRows() []numberRow {
	return []numberRow{
		{0, "00"},
		{1, "01"},
		{62, "3e"},
		{63, "3f"},
		{64, "40 40"},
		{65, "40 41"},
		{255, "40 ff"},
		{256, "41 00"},
		{16383, "7f ff"},
		{16384, "80 00 40 00"},
		{70000, "80 01 11 70"},
		{1<<30 - 1, "bf ff ff ff"},
		{1 << 30, "c0 00 00 00 40 00 00 00"},
		{0x0123456789abcdef, "c1 23 45 67 89 ab cd ef"},
		{1<<62 - 1, "ff ff ff ff ff ff ff ff"},
	}
}

// P1.1: a number has the fewest bytes that it fits into.
func TestP11Numbers(t *testing.T) {
	for _, r := range numberRows() {
		wantRow(t, "P", wire.P(nil, r.n), r.digits)
		wantRow(t, "P of none", wire.P([]byte{}, r.n), r.digits)
		wantRow(t, "P behind", wire.P([]byte{7, 8}, r.n), "07 08"+r.digits)
	}
}

// P1.1: of a number that is greater the lowest 62 bits are laid.
func TestP11NumbersOfMoreBits(t *testing.T) {
	for _, r := range numberRows() {
		for high := uint64(1); high < 4; high++ {
			wantRow(t, "P", wire.P(nil, r.n|high<<62), r.digits)
		}
	}
	wantRow(t, "P of the greatest", wire.P(nil, math.MaxUint64), "ff ff ff ff ff ff ff ff")
}

type wholeRow struct {
	n      int64
	digits string
}

// wholeRows are whole numbers that are read back as they were.
func wholeRows() []wholeRow {
	return []wholeRow{
		{0, "00"},
		{-1, "01"},
		{1, "02"},
		{-2, "03"},
		{31, "3e"},
		{-32, "3f"},
		{32, "40 40"},
		{-33, "40 41"},
		{-40, "40 4f"},
		{8191, "7f fe"},
		{-8192, "7f ff"},
		{8192, "80 00 40 00"},
		{math.MaxInt16, "80 00 ff fe"},
		{math.MinInt16, "80 00 ff ff"},
		{1<<29 - 1, "bf ff ff fe"},
		{-1 << 29, "bf ff ff ff"},
		{1 << 29, "c0 00 00 00 40 00 00 00"},
		{math.MaxInt32, "c0 00 00 00 ff ff ff fe"},
		{math.MinInt32, "c0 00 00 00 ff ff ff ff"},
		{1<<61 - 1, "ff ff ff ff ff ff ff fe"},
		{-1 << 61, "ff ff ff ff ff ff ff ff"},
	}
}

// P1.1: a whole number's bytes are those of 2n, or -2n - 1.
func TestP11WholeNumbers(t *testing.T) {
	for _, r := range wholeRows() {
		wantRow(t, "PI", wire.PI(nil, r.n), r.digits)
		wantRow(t, "PI behind", wire.PI([]byte{9}, r.n), "09"+r.digits)
	}
}

// P1.1: of whole numbers, too, the lowest 62 bits are laid, up to both ends.
func TestP11WholeNumbersOfMoreBits(t *testing.T) {
	rows := []wholeRow{
		{1 << 61, "00"},
		{-1<<61 - 1, "01"},
		{1<<61 + 1, "02"},
		{math.MaxInt64, "ff ff ff ff ff ff ff fe"},
		{math.MinInt64, "ff ff ff ff ff ff ff ff"},
		{math.MinInt64 + 1, "ff ff ff ff ff ff ff fd"},
	}
	for _, r := range rows {
		wantRow(t, "PI", wire.PI(nil, r.n), r.digits)
	}
}

// P1.1: a truth is a byte, a text the number of its bytes, and these.
func TestP11TruthsAndTexts(t *testing.T) {
	wantRow(t, "PT", wire.PT(nil, false), "00")
	wantRow(t, "PT", wire.PT(nil, true), "01")
	wantRow(t, "PT behind", wire.PT([]byte{5, 6}, true), "05 06 01")
	wantRow(t, "PS", wire.PS(nil, ""), "00")
	wantRow(t, "PS", wire.PS(nil, "ab"), "02 61 62")
	wantRow(t, "PS behind", wire.PS([]byte{5}, "\x00\xff\n"), "05 03 00 ff 0a")
	wantRow(t, "PS", wire.PS(nil, strings.Repeat("z", 63)), "3f"+strings.Repeat("7a", 63))
	wantRow(t, "PS", wire.PS(nil, strings.Repeat("z", 64)), "40 40"+strings.Repeat("7a", 64))
	wantRow(t, "PS", wire.PS(nil, strings.Repeat("z", 16384)), "80 00 40 00"+strings.Repeat("7a", 16384))
}

// P1.1: neither b nor its room is written into, nor shared with what is answered.
func TestP11RoomStays(t *testing.T) {
	lays := map[string]func(b []byte) []byte{
		"P":  func(b []byte) []byte { return wire.P(b, 1<<40) },
		"PI": func(b []byte) []byte { return wire.PI(b, -3) },
		"PT": func(b []byte) []byte { return wire.PT(b, true) },
		"PS": func(b []byte) []byte { return wire.PS(b, "text") },
	}
	for name, lay := range lays {
		whole := bytes.Repeat([]byte{0xee}, 64)
		b := whole[:3]
		first := lay(b)
		kept := slices.Clone(first)
		wire.PS(b, "another text, of more bytes")
		if !bytes.Equal(first, kept) {
			t.Errorf("%s: what was laid became %x", name, first)
		}
		for i := range first {
			first[i] = 0x11
		}
		if !bytes.Equal(whole, bytes.Repeat([]byte{0xee}, 64)) {
			t.Errorf("%s: the room became %x", name, whole)
		}
	}
}

// reading is one call that reads, by its name; what it answers can be held against a number, a truth, a text.
type reading struct {
	name string
	do   func(in *wire.In) any
}

func readU() reading { return reading{"U", func(in *wire.In) any { return in.U() }} }

func readI() reading { return reading{"I", func(in *wire.In) any { return in.I() }} }

func readB() reading { return reading{"B", func(in *wire.In) any { return in.B() }} }

func readT() reading { return reading{"T", func(in *wire.In) any { return in.T() }} }

func readS(most int) reading {
	return reading{"S", func(in *wire.In) any { return in.S(most) }}
}

func readMany(most int) reading {
	return reading{"Many", func(in *wire.In) any { return in.Many(most) }}
}

// P1.2: what stands at the place is answered, and the place is behind it.
func TestP12Reads(t *testing.T) {
	long := strings.Repeat("q", 64)
	cases := []struct {
		digits string
		read   reading
		want   any
		behind int
	}{
		{"00", readU(), uint64(0), 1},
		{"3f 01", readU(), uint64(63), 1},
		{"40 40", readU(), uint64(64), 2},
		{"7f ff 00", readU(), uint64(16383), 2},
		{"80 00 40 00", readU(), uint64(16384), 4},
		{"c0 00 00 00 40 00 00 00 ff", readU(), uint64(1 << 30), 8},
		{"ff ff ff ff ff ff ff ff", readU(), uint64(1<<62 - 1), 8},
		{"00", readI(), int64(0), 1},
		{"01", readI(), int64(-1), 1},
		{"02", readI(), int64(1), 1},
		{"3f", readI(), int64(-32), 1},
		{"40 40", readI(), int64(32), 2},
		{"ff ff ff ff ff ff ff fe", readI(), int64(1<<61 - 1), 8},
		{"ff ff ff ff ff ff ff ff", readI(), int64(-1 << 61), 8},
		{"00", readB(), byte(0), 1},
		{"ff 01", readB(), byte(255), 1},
		{"00", readT(), false, 1},
		{"01", readT(), true, 1},
		{"00", readS(0), "", 1},
		{"00", readS(10), "", 1},
		{"02 61 62 63", readS(2), "ab", 3},
		{"02 61 62", readS(math.MaxInt), "ab", 3},
		{"40 40" + strings.Repeat("71", 64), readS(64), long, 66},
		{"00", readMany(0), 0, 1},
		{"05", readMany(5), 5, 1},
		{"40 40", readMany(64), 64, 2},
		{"ff ff ff ff ff ff ff ff", readMany(math.MaxInt), 1<<62 - 1, 8},
	}
	for _, c := range cases {
		for _, ahead := range []int{0, 3} {
			text := strings.Repeat("\x02", ahead) + row(t, c.digits)
			in := wire.New(text)
			for range ahead {
				in.B()
			}
			what := c.read.name + " of " + c.digits
			if got := c.read.do(in); got != c.want {
				t.Errorf("%s: %v, want %v", what, got, c.want)
			}
			wantFault(t, what, in.Err(), api.OK, 0)
			wantPlace(t, what, in, ahead+c.behind, len(text))
		}
	}
}

// wantPlace fails unless the in is at that place of so many bytes.
func wantPlace(t *testing.T, what string, in *wire.In, place, of int) {
	t.Helper()
	if in.Place() != place || in.Left() != of-place {
		t.Errorf("%s: at %d, %d left; want at %d, %d left", what, in.Place(), in.Left(), place, of-place)
	}
}

// faultCases: bytes, how they are read, and the fault that this has.
func faultCases() []struct {
	digits string
	read   reading
	code   api.Errno
} {
	return []struct {
		digits string
		read   reading
		code   api.Errno
	}{
		// Bytes that are cut.
		{"", readU(), api.ErrShort},
		{"", readI(), api.ErrShort},
		{"", readB(), api.ErrShort},
		{"", readT(), api.ErrShort},
		{"", readS(5), api.ErrShort},
		{"", readMany(5), api.ErrShort},
		{"40", readU(), api.ErrShort},
		{"40", readI(), api.ErrShort},
		{"40", readS(500), api.ErrShort},
		{"40", readMany(500), api.ErrShort},
		{"c0 00", readU(), api.ErrShort},
		{"80 00 00", readU(), api.ErrShort},
		{"bf ff ff", readU(), api.ErrShort},
		{"c0 00 00 00 00 00 00", readU(), api.ErrShort},
		{"ff ff ff ff ff ff ff", readI(), api.ErrShort},
		{"01", readS(5), api.ErrShort},
		{"03 61 62", readS(3), api.ErrShort},
		{"40 40" + strings.Repeat("71", 63), readS(64), api.ErrShort},
		{"ff ff ff ff ff ff ff ff 61", readS(math.MaxInt), api.ErrShort},
		// Numbers of more bytes than they need.
		{"40 3f", readU(), api.ErrForm},
		{"40 00", readU(), api.ErrForm},
		{"40 00 00", readI(), api.ErrForm},
		{"80 00 3f ff", readU(), api.ErrForm},
		{"80 00 00 00", readU(), api.ErrForm},
		{"c0 00 00 00 3f ff ff ff", readU(), api.ErrForm},
		{"c0 00 00 00 00 00 00 01", readI(), api.ErrForm},
		{"40 02 61 62", readS(2), api.ErrForm},
		{"40 3f", readS(0), api.ErrForm},
		{"40 3f", readS(-1), api.ErrForm},
		{"40 05", readMany(5), api.ErrForm},
		{"40 05", readMany(1), api.ErrForm},
		// A truth that is neither 0 nor 1.
		{"02", readT(), api.ErrForm},
		{"40 01", readT(), api.ErrForm},
		{"ff", readT(), api.ErrForm},
		// Texts and rows that are too long; a text that is cut, too, is too long first.
		{"02 61 62", readS(1), api.ErrLong},
		{"01 61", readS(0), api.ErrLong},
		{"03 61", readS(2), api.ErrLong},
		{"01 61", readS(-1), api.ErrLong},
		{"00", readS(-1), api.ErrLong},
		{"00", readS(math.MinInt), api.ErrLong},
		{"40 40" + strings.Repeat("71", 64), readS(63), api.ErrLong},
		{"ff ff ff ff ff ff ff ff", readS(1<<62 - 2), api.ErrLong},
		{"06", readMany(5), api.ErrLong},
		{"01", readMany(0), api.ErrLong},
		{"00", readMany(-1), api.ErrLong},
		{"00", readMany(math.MinInt), api.ErrLong},
		{"ff ff ff ff ff ff ff ff", readMany(1<<62 - 2), api.ErrLong},
	}
}

// P1.2: a fault is At the place, which stays, and the answer is zero; nothing is read from then on.
func TestP12Faults(t *testing.T) {
	for _, c := range faultCases() {
		for _, ahead := range []int{0, 2} {
			text := strings.Repeat("\x01", ahead) + row(t, c.digits)
			in := wire.New(text)
			for range ahead {
				in.T()
			}
			what := c.read.name + " of " + c.digits
			wantZero(t, what, c.read.do(in))
			wantFault(t, what, in.Err(), c.code, ahead)
			wantFault(t, what, in.End(), c.code, ahead)
			wantPlace(t, what, in, ahead, len(text))
			wantReadsNothing(t, what, in, c.code, ahead)
			wantPlace(t, what, in, ahead, len(text))
		}
	}
}

// wantZero fails unless what was read is zero.
func wantZero(t *testing.T, what string, got any) {
	t.Helper()
	switch got {
	case uint64(0), int64(0), byte(0), false, "", 0:
	default:
		t.Errorf("%s: %v, want zero", what, got)
	}
}

// wantReadsNothing fails unless all reads of the in answer zero, and it keeps that fault.
func wantReadsNothing(t *testing.T, what string, in *wire.In, code api.Errno, at int) {
	t.Helper()
	for _, r := range []reading{readU(), readI(), readB(), readT(), readS(100), readS(-1), readMany(100), readMany(-1)} {
		wantZero(t, what+", then "+r.name, r.do(in))
		wantFault(t, what+", then "+r.name, in.Err(), code, at)
	}
}

// P1.2: a fault behind things that were read well keeps the place of the thing that has it.
func TestP12FaultBehindOthers(t *testing.T) {
	in := wire.New(row(t, "05 02 61 62 01 40 3f 07"))
	if n, x, is := in.U(), in.S(2), in.T(); n != 5 || x != "ab" || !is {
		t.Errorf("read %d %q %v", n, x, is)
	}
	if n := in.Many(100); n != 0 {
		t.Errorf("Many: %d, want 0", n)
	}
	wantFault(t, "Many", in.Err(), api.ErrForm, 5)
	wantPlace(t, "Many", in, 5, 8)
	wantReadsNothing(t, "Many", in, api.ErrForm, 5)
}

// P1.3: the place goes on, what is left becomes less; both add up.
func TestP13PlaceAndLeft(t *testing.T) {
	in := wire.New(row(t, "3f 40 40 02 61 62 09"))
	wantPlace(t, "at first", in, 0, 7)
	in.U()
	wantPlace(t, "behind one byte", in, 1, 7)
	in.U()
	wantPlace(t, "behind two more", in, 3, 7)
	in.S(2)
	wantPlace(t, "behind a text", in, 6, 7)
	in.B()
	wantPlace(t, "at the end", in, 7, 7)
	wantPlace(t, "of no bytes", wire.New(""), 0, 0)
}

// P1.3: Fail gives the first fault; a second one, and OK, are none.
func TestP13Fail(t *testing.T) {
	in := wire.New(row(t, "05 06 07"))
	in.Fail(api.OK, 9)
	wantFault(t, "Fail with OK", in.Err(), api.OK, 0)
	if n := in.U(); n != 5 {
		t.Errorf("U behind Fail with OK: %d, want 5", n)
	}
	in.Fail(api.ErrKind, 17)
	wantFault(t, "Fail", in.Err(), api.ErrKind, 17)
	wantPlace(t, "Fail", in, 1, 3)
	in.Fail(api.ErrRange, 2)
	in.Fail(api.OK, 3)
	wantFault(t, "Fail once more", in.Err(), api.ErrKind, 17)
	wantFault(t, "Fail, End", in.End(), api.ErrKind, 17)
	wantReadsNothing(t, "Fail", in, api.ErrKind, 17)
	wantPlace(t, "Fail", in, 1, 3)
}

// P1.3: any code but OK, and any place, may be given.
func TestP13FailWithAnyCode(t *testing.T) {
	for _, code := range []api.Errno{api.LastErrno, -1, 1000} {
		for _, at := range []int{0, -5, math.MaxInt, math.MinInt} {
			in := wire.New("")
			in.Fail(code, at)
			wantFault(t, "Fail", in.Err(), code, at)
		}
	}
}

// P1.3: a fault of a read is not changed by Fail.
func TestP13FailBehindAFault(t *testing.T) {
	in := wire.New(row(t, "40"))
	in.U()
	in.Fail(api.ErrKind, 7)
	wantFault(t, "Fail behind a fault", in.Err(), api.ErrShort, 0)
}

// P1.3: End tells that bytes are left, without the in having that fault.
func TestP13End(t *testing.T) {
	in := wire.New(row(t, "05 06"))
	wantFault(t, "End at first", in.End(), api.ErrLong, 0)
	wantFault(t, "Err behind End", in.Err(), api.OK, 0)
	if n := in.U(); n != 5 {
		t.Errorf("U behind End: %d, want 5", n)
	}
	wantFault(t, "End with a byte left", in.End(), api.ErrLong, 1)
	if n := in.U(); n != 6 {
		t.Errorf("U behind End: %d, want 6", n)
	}
	wantFault(t, "End at the end", in.End(), api.OK, 0)
	if err := wire.New("").End(); err != nil {
		t.Errorf("End of no bytes: %v", err)
	}
}

// P1.3: a fault that was told is the asker's: to change it changes nothing.
func TestP13FaultsAreTheAskers(t *testing.T) {
	in := wire.New(row(t, "02"))
	in.T()
	for _, err := range []error{in.Err(), in.End()} {
		f := err.(*api.Fault)
		f.Code, f.At = api.ErrOver, 99
	}
	wantFault(t, "Err once more", in.Err(), api.ErrForm, 0)
	wantFault(t, "End once more", in.End(), api.ErrForm, 0)
}

// P1.3: an in that is none answers zero; its fault is ErrNil At 0.
func TestP13None(t *testing.T) {
	var in *wire.In
	wantReadsNothing(t, "none", in, api.ErrNil, 0)
	wantPlace(t, "none", in, 0, 0)
	in.Fail(api.ErrKind, 7)
	wantFault(t, "Err of none", in.Err(), api.ErrNil, 0)
	wantFault(t, "End of none", in.End(), api.ErrNil, 0)
	in.Err().(*api.Fault).At = 3
	wantFault(t, "Err of none", in.Err(), api.ErrNil, 0)
}

// P1.4: what was laid is read back.
func TestP14LaidIsReadBack(t *testing.T) {
	for _, r := range numberRows() {
		in := wire.New(string(wire.P(nil, r.n)))
		if n := in.U(); n != r.n || in.End() != nil {
			t.Errorf("%d is read as %d, %v", r.n, n, in.End())
		}
	}
	for _, r := range wholeRows() {
		in := wire.New(string(wire.PI(nil, r.n)))
		if n := in.I(); n != r.n || in.End() != nil {
			t.Errorf("%d is read as %d, %v", r.n, n, in.End())
		}
	}
	for _, x := range []string{"", "a", "\x00\xff", strings.Repeat("w", 63), strings.Repeat("w", 20000)} {
		in := wire.New(string(wire.PT(wire.PS(nil, x), x == "")))
		if got := in.S(len(x)); got != x {
			t.Errorf("%.20q is read as %.20q", x, got)
		}
		if is := in.T(); is != (x == "") || in.End() != nil {
			t.Errorf("a truth is read as %v, %v", is, in.End())
		}
	}
}

// P1.4: a row of all kinds is read back, one behind the other.
func TestP14RowsAreReadBack(t *testing.T) {
	var laid []byte
	for _, r := range wholeRows() {
		laid = wire.PT(wire.PI(wire.PS(laid, r.digits), r.n), r.n < 0)
	}
	in := wire.New(string(laid))
	for _, r := range wholeRows() {
		if x, n, is := in.S(100), in.I(), in.T(); x != r.digits || n != r.n || is != (r.n < 0) {
			t.Errorf("read %q %d %v, want %q %d %v", x, n, is, r.digits, r.n, r.n < 0)
		}
	}
	wantFault(t, "the end", in.End(), api.OK, 0)
}

// P1.4: what is read is laid just so: no number has two rows of bytes.
func TestP14ReadIsLaidJustSo(t *testing.T) {
	for n := range 1 << 16 {
		x := string([]byte{byte(n >> 8), byte(n)})
		for _, text := range []string{x, x[:1] + "\x00" + x[1:] + "\x00", x[:1] + "\x00\x00\x00" + x[1:] + "\x01\x02\x03"} {
			in := wire.New(text)
			value := in.U()
			if in.Err() == nil && string(wire.P(nil, value)) != text[:in.Place()] {
				t.Fatalf("%x is read as %d, and laid as %x", text, value, wire.P(nil, value))
			}
			whole := wire.New(text)
			if v := whole.I(); whole.Err() == nil && string(wire.PI(nil, v)) != text[:whole.Place()] {
				t.Fatalf("%x is read as %d, and laid as %x", text, v, wire.PI(nil, v))
			}
		}
	}
}

// P1.4: a greater number's bytes are not fewer, and are greater, as texts.
func TestP14GreaterIsGreater(t *testing.T) {
	var all []uint64
	for n := range uint64(17000) {
		all = append(all, n)
	}
	for k := 15; k < 62; k++ {
		all = append(all, 1<<k-1, 1<<k, 1<<k+1, 1<<k+1<<(k-1))
	}
	all = append(all, 1<<62-2, 1<<62-1)
	slices.Sort(all)
	all = slices.Compact(all)
	for k := 1; k < len(all); k++ {
		less, more := string(wire.P(nil, all[k-1])), string(wire.P(nil, all[k]))
		if len(less) > len(more) || less >= more {
			t.Fatalf("%d is %x, %d is %x", all[k-1], less, all[k], more)
		}
	}
}

// P1: whatever bytes stand there, and however they are asked for, every read ends, and none panics.
func TestP1AnyBytes(t *testing.T) {
	mosts := []int{math.MinInt, -1, 0, 1, 63, 64, math.MaxInt}
	state := uint64(1)
	for range 20000 {
		text := make([]byte, state>>60)
		for k := range text {
			state = state*6364136223846793005 + 1442695040888963407
			text[k] = byte(state >> 56)
		}
		state = state*6364136223846793005 + 1442695040888963407
		in := wire.New(string(text))
		for in.Err() == nil {
			most := mosts[state>>32%uint64(len(mosts))]
			rs := []reading{readU(), readI(), readB(), readT(), readS(most), readMany(most)}
			before := in.Place()
			rs[state>>40%uint64(len(rs))].do(in)
			state = state*6364136223846793005 + 1442695040888963407
			if in.Place()+in.Left() != len(text) || (in.Err() == nil) != (in.Place() > before) {
				t.Fatalf("%x: from %d to %d, %d left, %v", text, before, in.Place(), in.Left(), in.Err())
			}
		}
	}
}
