package regs

import (
	"fmt"
	"math"
	"reflect"
	"strings"
	"testing"

	"squeal/api"
)

// full has a number of its own in each register, and no byte of a word is one
// of another's.
func full() api.Regs {
	return api.Regs{
		A: 0x01, F: 0x02, B: 0x03, C: 0x04, D: 0x05, E: 0x06, H: 0x07, L: 0x08,
		A2: 0x11, F2: 0x12, B2: 0x13, C2: 0x14, D2: 0x15, E2: 0x16, H2: 0x17, L2: 0x18,
		I: 0x21, R: 0x22, Q: 0x23,
		IX: 0x3132, IY: 0x3334, SP: 0x3536, PC: 0x3738, WZ: 0x393a,
		IFF1: true, IFF2: false, Halt: true, Hold: false,
		IM: 0x41, Pre: 0x42,
	}
}

// turned has each bit of full's registers turned.
func turned() api.Regs {
	r := full()
	v := reflect.ValueOf(&r).Elem()
	for n := range v.NumField() {
		switch f := v.Field(n); f.Kind() {
		case reflect.Bool:
			f.SetBool(!f.Bool())
		case reflect.Uint8:
			f.SetUint(f.Uint() ^ 0xff)
		default:
			f.SetUint(f.Uint() ^ 0xffff)
		}
	}
	return r
}

// bases are the registers that are tried.
func bases() []api.Regs {
	return []api.Regs{{}, full(), turned()}
}

// wrong are numbers beyond all bytes, pairs and indexes. Twice some of them is
// the number of a byte again.
var wrong = []int{
	-1, -2, -3, -4, -7, -8, 8, 9, 10, 15, 16, 255, 256, 257, 258, 259, 260,
	math.MinInt32, math.MaxInt32, math.MinInt, math.MinInt + 1, math.MinInt + 2, math.MinInt + 3,
	math.MaxInt/2 + 1, math.MaxInt - 1, math.MaxInt,
}

// plain are indexes that stand for HL itself.
func plain() []int {
	return append([]int{0, 3, 4, 5, 7}, wrong...)
}

// everyIndex is each index that is tried.
func everyIndex() []int {
	return append([]int{1, 2}, plain()...)
}

// check tells where registers are otherwise than they should be.
func check(t *testing.T, what string, got, want api.Regs) {
	t.Helper()
	if got == want {
		return
	}
	g, w := reflect.ValueOf(got), reflect.ValueOf(want)
	for n := range g.NumField() {
		if !g.Field(n).Equal(w.Field(n)) {
			t.Errorf("%s: %s is %v, not %v", what, g.Type().Field(n).Name, g.Field(n), w.Field(n))
		}
	}
	t.FailNow()
}

// byteRow is a byte by its number: where it is told from, and what putting v
// makes of the registers.
type byteRow struct {
	k   int
	get func(r api.Regs) uint8
	put func(r *api.Regs, v uint8)
}

var ownBytes = []byteRow{
	{0, func(r api.Regs) uint8 { return r.B }, func(r *api.Regs, v uint8) { r.B = v }},
	{1, func(r api.Regs) uint8 { return r.C }, func(r *api.Regs, v uint8) { r.C = v }},
	{2, func(r api.Regs) uint8 { return r.D }, func(r *api.Regs, v uint8) { r.D = v }},
	{3, func(r api.Regs) uint8 { return r.E }, func(r *api.Regs, v uint8) { r.E = v }},
	{7, func(r api.Regs) uint8 { return r.A }, func(r *api.Regs, v uint8) { r.A = v }},
}

var hlBytes = []byteRow{
	{4, func(r api.Regs) uint8 { return r.H }, func(r *api.Regs, v uint8) { r.H = v }},
	{5, func(r api.Regs) uint8 { return r.L }, func(r *api.Regs, v uint8) { r.L = v }},
}

var ixBytes = []byteRow{
	{4, func(r api.Regs) uint8 { return uint8(r.IX / 256) }, func(r *api.Regs, v uint8) { r.IX = uint16(v)*256 + r.IX%256 }},
	{5, func(r api.Regs) uint8 { return uint8(r.IX % 256) }, func(r *api.Regs, v uint8) { r.IX = r.IX/256*256 + uint16(v) }},
}

var iyBytes = []byteRow{
	{4, func(r api.Regs) uint8 { return uint8(r.IY / 256) }, func(r *api.Regs, v uint8) { r.IY = uint16(v)*256 + r.IY%256 }},
	{5, func(r api.Regs) uint8 { return uint8(r.IY % 256) }, func(r *api.Regs, v uint8) { r.IY = r.IY/256*256 + uint16(v) }},
}

// pairRow is a pair by its number likewise.
type pairRow struct {
	k   int
	get func(r api.Regs) uint16
	put func(r *api.Regs, w uint16)
}

var ownPairs = []pairRow{
	{0, func(r api.Regs) uint16 { return uint16(r.B)*256 + uint16(r.C) }, func(r *api.Regs, w uint16) { r.B, r.C = uint8(w/256), uint8(w%256) }},
	{1, func(r api.Regs) uint16 { return uint16(r.D)*256 + uint16(r.E) }, func(r *api.Regs, w uint16) { r.D, r.E = uint8(w/256), uint8(w%256) }},
	{3, func(r api.Regs) uint16 { return r.SP }, func(r *api.Regs, w uint16) { r.SP = w }},
}

var hlPair = pairRow{2, func(r api.Regs) uint16 { return uint16(r.H)*256 + uint16(r.L) }, func(r *api.Regs, w uint16) { r.H, r.L = uint8(w/256), uint8(w%256) }}
var ixPair = pairRow{2, func(r api.Regs) uint16 { return r.IX }, func(r *api.Regs, w uint16) { r.IX = w }}
var iyPair = pairRow{2, func(r api.Regs) uint16 { return r.IY }, func(r *api.Regs, w uint16) { r.IY = w }}

// bytesOf and pairsOf are what numbers stand for with an index.
func bytesOf(ix int) []byteRow {
	rows := append([]byteRow{}, ownBytes...)
	switch ix {
	case 1:
		return append(rows, ixBytes...)
	case 2:
		return append(rows, iyBytes...)
	}
	return append(rows, hlBytes...)
}

func pairsOf(ix int) []pairRow {
	rows := append([]pairRow{}, ownPairs...)
	switch ix {
	case 1:
		return append(rows, ixPair)
	case 2:
		return append(rows, iyPair)
	}
	return append(rows, hlPair)
}

// 6.1

func TestBytesWrittenOut(t *testing.T) {
	r := full()
	for _, x := range []struct {
		ix   int
		want [8]uint8
	}{
		{0, [8]uint8{0x03, 0x04, 0x05, 0x06, 0x07, 0x08, 0, 0x01}},
		{1, [8]uint8{0x03, 0x04, 0x05, 0x06, 0x31, 0x32, 0, 0x01}},
		{2, [8]uint8{0x03, 0x04, 0x05, 0x06, 0x33, 0x34, 0, 0x01}},
		{3, [8]uint8{0x03, 0x04, 0x05, 0x06, 0x07, 0x08, 0, 0x01}},
		{-1, [8]uint8{0x03, 0x04, 0x05, 0x06, 0x07, 0x08, 0, 0x01}},
	} {
		for k, want := range x.want {
			if got := Byte(&r, k, x.ix); got != want {
				t.Errorf("Byte(%d, %d) is %#x, not %#x", k, x.ix, got, want)
			}
		}
	}
}

func TestPairsWrittenOut(t *testing.T) {
	r := full()
	for _, x := range []struct {
		ix   int
		want [4]uint16
	}{
		{0, [4]uint16{0x0304, 0x0506, 0x0708, 0x3536}},
		{1, [4]uint16{0x0304, 0x0506, 0x3132, 0x3536}},
		{2, [4]uint16{0x0304, 0x0506, 0x3334, 0x3536}},
		{3, [4]uint16{0x0304, 0x0506, 0x0708, 0x3536}},
		{-1, [4]uint16{0x0304, 0x0506, 0x0708, 0x3536}},
	} {
		for k, want := range x.want {
			if got := Pair(&r, k, x.ix); got != want {
				t.Errorf("Pair(%d, %d) is %#x, not %#x", k, x.ix, got, want)
			}
		}
	}
}

func TestByteAndPutByte(t *testing.T) {
	for _, base := range bases() {
		for _, ix := range everyIndex() {
			for _, row := range bytesOf(ix) {
				for v := range 256 {
					checkByte(t, base, ix, row, uint8(v))
				}
			}
		}
	}
}

// checkByte puts v at a byte, and tells it: all else stays.
func checkByte(t *testing.T, base api.Regs, ix int, row byteRow, v uint8) {
	t.Helper()
	r, want := base, base
	if got := Byte(&r, row.k, ix); got != row.get(base) {
		t.Fatalf("Byte(%d, %d) is %#x, not %#x", row.k, ix, got, row.get(base))
	}
	check(t, fmt.Sprintf("Byte(%d, %d)", row.k, ix), r, base)
	PutByte(&r, row.k, ix, v)
	row.put(&want, v)
	check(t, fmt.Sprintf("PutByte(%d, %d, %#x)", row.k, ix, v), r, want)
	if got := Byte(&r, row.k, ix); got != v {
		t.Fatalf("behind PutByte(%d, %d, %#x) it is %#x", row.k, ix, v, got)
	}
}

func TestPairAndPutPair(t *testing.T) {
	words := []uint16{0, 1, 0xff, 0x100, 0x1234, 0x7fff, 0x8000, 0xff00, 0xffff}
	for _, base := range bases() {
		for _, ix := range everyIndex() {
			for _, row := range pairsOf(ix) {
				for _, w := range words {
					checkPair(t, base, ix, row, w)
				}
			}
		}
	}
}

func TestPairsOfAllWords(t *testing.T) {
	for _, ix := range []int{0, 1, 2} {
		for _, row := range pairsOf(ix) {
			for w := range 65536 {
				checkPair(t, full(), ix, row, uint16(w))
			}
		}
	}
}

// checkPair puts w at a pair, and tells it: all else stays.
func checkPair(t *testing.T, base api.Regs, ix int, row pairRow, w uint16) {
	t.Helper()
	r, want := base, base
	if got := Pair(&r, row.k, ix); got != row.get(base) {
		t.Fatalf("Pair(%d, %d) is %#x, not %#x", row.k, ix, got, row.get(base))
	}
	if r != base {
		t.Fatalf("Pair(%d, %d) changed the registers", row.k, ix)
	}
	PutPair(&r, row.k, ix, w)
	row.put(&want, w)
	if r != want {
		check(t, fmt.Sprintf("PutPair(%d, %d, %#x)", row.k, ix, w), r, want)
	}
	if got := Pair(&r, row.k, ix); got != w {
		t.Fatalf("behind PutPair(%d, %d, %#x) it is %#x", row.k, ix, w, got)
	}
}

func TestNoByte(t *testing.T) {
	for _, base := range bases() {
		for _, ix := range everyIndex() {
			for _, k := range append([]int{6}, wrong...) {
				r := base
				if got := Byte(&r, k, ix); got != 0 {
					t.Errorf("Byte(%d, %d) is %#x", k, ix, got)
				}
				PutByte(&r, k, ix, 0x5a)
				check(t, fmt.Sprintf("PutByte(%d, %d)", k, ix), r, base)
				if got := Byte(&r, k, ix); got != 0 {
					t.Errorf("behind a put Byte(%d, %d) is %#x", k, ix, got)
				}
			}
		}
	}
}

func TestNoPair(t *testing.T) {
	for _, base := range bases() {
		for _, ix := range everyIndex() {
			for _, k := range append([]int{4, 5, 6, 7}, wrong...) {
				r := base
				if got := Pair(&r, k, ix); got != 0 {
					t.Errorf("Pair(%d, %d) is %#x", k, ix, got)
				}
				PutPair(&r, k, ix, 0x5aa5)
				check(t, fmt.Sprintf("PutPair(%d, %d)", k, ix), r, base)
				if got := Pair(&r, k, ix); got != 0 {
					t.Errorf("behind a put Pair(%d, %d) is %#x", k, ix, got)
				}
			}
		}
	}
}

func TestBytesArePartsOfPairs(t *testing.T) {
	for _, ix := range everyIndex() {
		for pair := range 3 {
			r := full()
			PutPair(&r, pair, ix, 0xabcd)
			if hi, lo := Byte(&r, 2*pair, ix), Byte(&r, 2*pair+1, ix); hi != 0xab || lo != 0xcd {
				t.Errorf("pair %d with %d has the bytes %#x, %#x", pair, ix, hi, lo)
			}
			PutByte(&r, 2*pair, ix, 0x12)
			PutByte(&r, 2*pair+1, ix, 0x34)
			if w := Pair(&r, pair, ix); w != 0x1234 {
				t.Errorf("pair %d with %d is %#x", pair, ix, w)
			}
		}
	}
}

func TestAf(t *testing.T) {
	r := full()
	if Af(&r) != 0x0102 {
		t.Errorf("Af is %#x", Af(&r))
	}
	for _, base := range bases() {
		for w := range 65536 {
			r, want := base, base
			PutAf(&r, uint16(w))
			want.A, want.F = uint8(w/256), uint8(w%256)
			if r != want {
				check(t, fmt.Sprintf("PutAf(%#x)", w), r, want)
			}
			if got := Af(&r); got != uint16(w) || r != want {
				t.Fatalf("behind PutAf(%#x) it is %#x", w, got)
			}
		}
	}
}

// 6.2

func TestExAf(t *testing.T) {
	r, want := full(), full()
	ExAf(&r)
	want.A, want.F, want.A2, want.F2 = 0x11, 0x12, 0x01, 0x02
	check(t, "ExAf", r, want)
}

func TestExx(t *testing.T) {
	r, want := full(), full()
	Exx(&r)
	want.B, want.C, want.D, want.E, want.H, want.L = 0x13, 0x14, 0x15, 0x16, 0x17, 0x18
	want.B2, want.C2, want.D2, want.E2, want.H2, want.L2 = 0x03, 0x04, 0x05, 0x06, 0x07, 0x08
	check(t, "Exx", r, want)
}

func TestExDe(t *testing.T) {
	r, want := full(), full()
	ExDe(&r)
	want.D, want.E, want.H, want.L = 0x07, 0x08, 0x05, 0x06
	check(t, "ExDe", r, want)
}

func TestIr(t *testing.T) {
	r := full()
	if Ir(&r) != 0x2122 {
		t.Errorf("Ir is %#x", Ir(&r))
	}
	for w := range 65536 {
		r := full()
		r.I, r.R = uint8(w/256), uint8(w%256)
		kept := r
		if got := Ir(&r); got != uint16(w) || r != kept {
			t.Fatalf("Ir of %#x is %#x", w, got)
		}
	}
}

func TestTickWrittenOut(t *testing.T) {
	for _, x := range [][2]uint8{
		{0, 1}, {1, 2}, {63, 64}, {126, 127}, {127, 0}, {128, 129}, {129, 130}, {191, 192}, {254, 255}, {255, 128},
	} {
		r := api.Regs{R: x[0]}
		Tick(&r)
		if r.R != x[1] {
			t.Errorf("behind %d R is %d, not %d", x[0], r.R, x[1])
		}
	}
}

func TestTickOfEveryR(t *testing.T) {
	for _, base := range bases() {
		for n := range 256 {
			r, want := base, base
			r.R = uint8(n)
			Tick(&r)
			want.R = uint8(n/128*128 + (n%128+1)%128)
			check(t, fmt.Sprintf("a tick of %d", n), r, want)
		}
	}
}

// 6.3

func TestSame(t *testing.T) {
	for _, base := range bases() {
		a, b := base, base
		if !Same(&a, &b) || !Same(&a, &a) {
			t.Error("the same registers aren't")
		}
		check(t, "Same", a, base)
		check(t, "Same", b, base)
	}
}

// otherwise is each value that a register is tried with in the place of f's.
func otherwise(f reflect.Value) []reflect.Value {
	if f.Kind() == reflect.Bool {
		return []reflect.Value{reflect.ValueOf(!f.Bool())}
	}
	var all []reflect.Value
	for bit := range f.Type().Bits() {
		all = append(all, reflect.ValueOf(f.Uint()^1<<bit).Convert(f.Type()))
	}
	return all
}

func TestSameWithOneRegisterChanged(t *testing.T) {
	for _, base := range bases() {
		for n := range reflect.TypeOf(base).NumField() {
			for _, v := range otherwise(reflect.ValueOf(base).Field(n)) {
				a, b := base, base
				reflect.ValueOf(&b).Elem().Field(n).Set(v)
				if Same(&a, &b) || Same(&b, &a) {
					t.Errorf("%s of %v is the same", reflect.TypeOf(base).Field(n).Name, v)
				}
			}
		}
	}
}

func TestShow(t *testing.T) {
	for _, x := range []struct {
		r    api.Regs
		want string
	}{
		{api.Regs{}, "AF=0000 BC=0000 DE=0000 HL=0000 IX=0000 IY=0000 SP=0000 PC=0000 I=00 R=00"},
		{full(), "AF=0102 BC=0304 DE=0506 HL=0708 IX=3132 IY=3334 SP=3536 PC=3738 I=21 R=22"},
		{turned(), "AF=fefd BC=fcfb DE=faf9 HL=f8f7 IX=cecd IY=cccb SP=cac9 PC=c8c7 I=de R=dd"},
		{api.Regs{F: 1, C: 0x0a, E: 0x10, H: 1, IX: 0x0a, IY: 0x100, SP: 0x10, PC: 0xf000, I: 0x0f, R: 0xf0}, "AF=0001 BC=000a DE=0010 HL=0100 IX=000a IY=0100 SP=0010 PC=f000 I=0f R=f0"},
		{api.Regs{A: 0xab, F: 0xcd, B: 0xef, L: 0xff, PC: 0xffff, I: 0xff, R: 9}, "AF=abcd BC=ef00 DE=0000 HL=00ff IX=0000 IY=0000 SP=0000 PC=ffff I=ff R=09"},
	} {
		kept := x.r
		if got := Show(&x.r); got != x.want {
			t.Errorf("Show is\n%s, not\n%s", got, x.want)
		}
		check(t, "Show", x.r, kept)
	}
}

// shownAt has each register that Show tells, and how many digits it has there.
var shownAt = []struct {
	name   string
	digits int
	put    func(r *api.Regs, w uint16)
}{
	{"AF", 4, func(r *api.Regs, w uint16) { r.A, r.F = uint8(w/256), uint8(w%256) }},
	{"BC", 4, func(r *api.Regs, w uint16) { r.B, r.C = uint8(w/256), uint8(w%256) }},
	{"DE", 4, func(r *api.Regs, w uint16) { r.D, r.E = uint8(w/256), uint8(w%256) }},
	{"HL", 4, func(r *api.Regs, w uint16) { r.H, r.L = uint8(w/256), uint8(w%256) }},
	{"IX", 4, func(r *api.Regs, w uint16) { r.IX = w }},
	{"IY", 4, func(r *api.Regs, w uint16) { r.IY = w }},
	{"SP", 4, func(r *api.Regs, w uint16) { r.SP = w }},
	{"PC", 4, func(r *api.Regs, w uint16) { r.PC = w }},
	{"I", 2, func(r *api.Regs, w uint16) { r.I = uint8(w) }},
	{"R", 2, func(r *api.Regs, w uint16) { r.R = uint8(w) }},
}

func TestShowOfEachRegister(t *testing.T) {
	for place, x := range shownAt {
		for w := 0; w < 1<<(4*x.digits); w += 1 + w/300 {
			var r api.Regs
			x.put(&r, uint16(w))
			words := strings.Split(Show(&r), " ")
			if want := fmt.Sprintf("%s=%0*x", x.name, x.digits, w); len(words) != 10 || words[place] != want {
				t.Fatalf("Show is %v; %s was put", words, want)
			}
			for at, y := range shownAt {
				if want := fmt.Sprintf("%s=%0*x", y.name, y.digits, 0); at != place && words[at] != want {
					t.Fatalf("Show is %v, with %s alone put", words, x.name)
				}
			}
		}
	}
}

// Show tells nothing of the other set, nor of what stands in no word of it.
func TestShowOfWhatItDoesNotTell(t *testing.T) {
	r := turned()
	r.A, r.F, r.B, r.C, r.D, r.E, r.H, r.L = 0, 0, 0, 0, 0, 0, 0, 0
	r.IX, r.IY, r.SP, r.PC, r.I, r.R = 0, 0, 0, 0, 0, 0
	if Show(&r) != Show(&api.Regs{}) {
		t.Errorf("Show is %s", Show(&r))
	}
}

// 6.4

func TestExchangesUndoThemselves(t *testing.T) {
	for name, do := range map[string]func(*api.Regs){"ExAf": ExAf, "Exx": Exx, "ExDe": ExDe} {
		for _, base := range bases() {
			r := base
			do(&r)
			if base != (api.Regs{}) && r == base {
				t.Errorf("%s does nothing", name)
			}
			do(&r)
			check(t, name+" twice", r, base)
		}
	}
}

func TestTicksGoRound(t *testing.T) {
	for n := range 256 {
		r := full()
		r.R = uint8(n)
		kept := r
		for k := range 128 {
			if k > 0 && r == kept {
				t.Fatalf("%d ticks of %d are none", k, n)
			}
			Tick(&r)
		}
		check(t, fmt.Sprintf("128 ticks of %d", n), r, kept)
	}
}

// Of nil registers

func TestNil(t *testing.T) {
	for _, ix := range everyIndex() {
		for _, k := range append([]int{0, 1, 2, 3, 4, 5, 6, 7}, wrong...) {
			PutByte(nil, k, ix, 1)
			PutPair(nil, k, ix, 1)
			if Byte(nil, k, ix) != 0 || Pair(nil, k, ix) != 0 {
				t.Errorf("no registers have something at %d, %d", k, ix)
			}
		}
	}
	PutAf(nil, 1)
	ExAf(nil)
	Exx(nil)
	ExDe(nil)
	Tick(nil)
	if Af(nil) != 0 || Ir(nil) != 0 || Show(nil) != "" {
		t.Error("no registers are told")
	}
}

func TestSameOfNil(t *testing.T) {
	if !Same(nil, nil) {
		t.Error("none and none aren't the same")
	}
	for _, r := range bases() {
		if Same(nil, &r) || Same(&r, nil) {
			t.Errorf("none and %s are the same", Show(&r))
		}
	}
}
