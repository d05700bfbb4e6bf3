package ula

import (
	"math"
	"math/bits"
	"testing"
)

// frame is a frame's T-states, written out.
const frame = 69888

// at is a place of a line of the screen as a time: the lines go by 224 T-states,
// from the first one on.
func at(first, line, place int) int {
	return first + 224*line + place
}

// fixed are places in a frame at which something begins or ends.
var fixed = []int{
	0, 1, 31, 32, 33, 14334, 14335, 14336, 14337, 14338, 14339, 14340, 14341, 14342, 14343, 14346, 14462, 14463,
	14465, 14466, 14558, 14559, 14561, 14562, 57118, 57119, 57122, 57246, 57247, 57249, 57250, 57342, 57343, 57346, 69886, 69887,
}

// away are times, each of which is n in its frame.
func away(n int) []int {
	var l []int
	for _, k := range []int{0, 1, 2, 3, 1000, 30000, -1, -2, -3, -1000, -30000} {
		l = append(l, n+k*frame)
	}
	return l
}

// extreme are the ends of int, with where they are in a frame: a power of two is
// doubled up to them, modulo a frame.
func extreme() map[int]int {
	high := 1
	for range bits.UintSize - 1 {
		high = high * 2 % frame
	}
	return map[int]int{
		math.MinInt:     (frame - high) % frame,
		math.MinInt + 1: (frame - high + 1) % frame,
		math.MaxInt:     (high + frame - 1) % frame,
		math.MaxInt - 1: (high + frame - 2) % frame,
	}
}

// moved calls f with times, and with where each is in a frame: all of one frame,
// the fixed ones in frames ahead of it and behind, and the ends of int.
func moved(f func(t, n int)) {
	for n := range frame {
		f(n, n)
	}
	for _, n := range fixed {
		for _, t := range away(n) {
			f(t, n)
		}
	}
	for t, n := range extreme() {
		f(t, n)
	}
}

// 9.1

func TestFrame(t *testing.T) {
	for _, x := range []struct{ t, want int }{
		{0, 0}, {1, 1}, {69887, 69887}, {69888, 0}, {69889, 1}, {139776, 0}, {-1, 69887}, {-69887, 1}, {-69888, 0}, {-69889, 69887},
	} {
		if got := Frame(x.t); got != x.want {
			t.Errorf("Frame(%d) is %d", x.t, got)
		}
	}
	moved(func(when, n int) {
		if got := Frame(when); got != n {
			t.Fatalf("Frame(%d) is %d, not %d", when, got, n)
		}
	})
}

func TestWaitWrittenOut(t *testing.T) {
	for _, x := range []struct{ t, want int }{
		{0, 0}, {14334, 0}, {14335, 6}, {14336, 5}, {14337, 4}, {14338, 3}, {14339, 2}, {14340, 1}, {14341, 0}, {14342, 0},
		{14343, 6}, {14350, 0}, {14455, 6}, {14460, 1}, {14461, 0}, {14462, 0}, {14463, 0}, {14464, 0}, {14558, 0}, {14559, 6},
		{57119, 6}, {57120, 5}, {57239, 6}, {57244, 1}, {57245, 0}, {57246, 0}, {57247, 0}, {57343, 0}, {57344, 0}, {69887, 0},
		{14335 + 69888, 6}, {14335 - 69888, 6}, {14335 - 3*69888, 6}, {-1, 0},
	} {
		if got := Wait(x.t); got != x.want {
			t.Errorf("Wait(%d) is %d", x.t, got)
		}
	}
}

// waited is how long is waited at each time of a frame, gone through line by line.
func waited() *[frame]int {
	l := new([frame]int)
	for line := range 192 {
		for eight := range 16 {
			for k, w := range []int{6, 5, 4, 3, 2, 1, 0, 0} {
				l[at(14335, line, 8*eight+k)] = w
			}
		}
	}
	return l
}

func TestWaitOfAllTimes(t *testing.T) {
	want := waited()
	moved(func(when, n int) {
		if got := Wait(when); got != want[n] {
			t.Fatalf("Wait(%d) is %d, not %d", when, got, want[n])
		}
	})
}

func TestSlow(t *testing.T) {
	for addr := range 65536 {
		if got := Slow(uint16(addr)); got != (addr/16384 == 1) {
			t.Errorf("Slow(%d) is %v", addr, got)
		}
	}
}

// 9.2

// wrong are numbers that are no kind of a cycle, and no T-state of one.
var wrong = []int{-1, -2, -3, -6, 6, 7, 8, 9, 255, 256, 259, 65536, 65539, 1 << 30, math.MinInt, math.MinInt + 3, math.MaxInt}

// slowEven and the like are addresses of which the chapter speaks apart.
var (
	slowEven = []uint16{16384, 16386, 16638, 22528, 32510, 32764, 32766}
	slowOdd  = []uint16{16385, 16387, 16639, 22529, 32511, 32765, 32767}
	fastEven = []uint16{0, 2, 254, 16380, 16382, 32768, 32770, 49152, 65278, 65534}
	fastOdd  = []uint16{1, 3, 255, 16381, 16383, 32769, 32771, 49153, 65279, 65535}
)

// holds tells at which T-states from 0 to 6 of a cycle is waited (x), and whether
// it is at any other.
type holds struct {
	addrs []uint16
	at    string
	other bool
}

// cycles are the kinds, in their order: Fetch, Read, Write, Port, Idle, Ack.
var cycles = [6][]holds{
	{{slowEven, "x......", false}, {slowOdd, "x......", false}, {fastEven, ".......", false}, {fastOdd, ".......", false}},
	{{slowEven, "x......", false}, {slowOdd, "x......", false}, {fastEven, ".......", false}, {fastOdd, ".......", false}},
	{{slowEven, "x......", false}, {slowOdd, "x......", false}, {fastEven, ".......", false}, {fastOdd, ".......", false}},
	{{slowEven, "xx.....", false}, {slowOdd, "xxxxxxx", true}, {fastEven, ".x.....", false}, {fastOdd, ".......", false}},
	{{slowEven, "xxxxxxx", true}, {slowOdd, "xxxxxxx", true}, {fastEven, ".......", false}, {fastOdd, ".......", false}},
	{{slowEven, ".......", false}, {slowOdd, ".......", false}, {fastEven, ".......", false}, {fastOdd, ".......", false}},
}

// holding checks Hold at times at which is waited, and at which isn't.
func holding(t *testing.T, kind int, addr uint16, k int, held bool) {
	t.Helper()
	for _, x := range []struct{ t, wait int }{
		{0, 0}, {14334, 0}, {14335, 6}, {14336, 5}, {14337, 4}, {14338, 3}, {14339, 2}, {14340, 1}, {14341, 0}, {14342, 0}, {14343, 6},
		{14463, 0}, {14559, 6}, {57244, 1}, {57343, 0}, {69888 + 14336, 5}, {14337 - 69888, 4}, {-1, 0},
	} {
		want := 0
		if held {
			want = x.wait
		}
		if got := Hold(kind, addr, k, x.t); got != want {
			t.Fatalf("Hold(%d, %d, %d, %d) is %d, not %d", kind, addr, k, x.t, got, want)
		}
	}
}

func TestHold(t *testing.T) {
	for kind, rows := range cycles {
		for _, row := range rows {
			for _, addr := range row.addrs {
				for k, sign := range row.at {
					holding(t, kind, addr, k, sign == 'x')
				}
			}
		}
	}
}

func TestHoldAtNoTState(t *testing.T) {
	for kind, rows := range cycles {
		for _, row := range rows {
			for _, addr := range row.addrs {
				for _, k := range wrong {
					if k < 0 || k > 6 {
						holding(t, kind, addr, k, row.other)
					}
				}
			}
		}
	}
}

func TestHoldOfNoKind(t *testing.T) {
	for _, kind := range wrong {
		for _, addrs := range [][]uint16{slowEven, slowOdd, fastEven, fastOdd} {
			for _, addr := range addrs {
				for k := range 7 {
					holding(t, kind, addr, k, false)
				}
			}
		}
	}
}

func TestHoldAtAllAddresses(t *testing.T) {
	for n := range 65536 {
		addr := uint16(n)
		slow, even := n >= 16384 && n < 32768, n%2 == 0
		for k := range 4 {
			for kind, held := range []bool{
				slow && k == 0, slow && k == 0, slow && k == 0,
				slow && (!even || k < 2) || !slow && even && k == 1, slow, false,
			} {
				want := 0
				if held {
					want = 6
				}
				if got := Hold(kind, addr, k, 14335); got != want {
					t.Fatalf("Hold(%d, %d, %d, 14335) is %d", kind, addr, k, got)
				}
			}
		}
	}
}

func TestHoldAtAllTimes(t *testing.T) {
	want := waited()
	moved(func(when, n int) {
		for kind := range 5 {
			if got := Hold(kind, 16384, 0, when); got != want[n] {
				t.Fatalf("Hold(%d, 16384, 0, %d) is %d, not %d", kind, when, got, want[n])
			}
		}
		if got := Hold(5, 16384, 0, when); got != 0 {
			t.Fatalf("Hold(5, 16384, 0, %d) is %d", when, got)
		}
	})
}

// 9.3

// cell is one of the screen, with the addresses of its byte and its attribute.
type cell struct {
	line, cell      int
	pixels, colours uint16
}

// cells are all of the screen, in the order of their bytes in memory.
func cells() []cell {
	var l []cell
	addr := 16384
	for third := range 3 {
		for within := range 8 {
			for row := range 8 {
				for c := range 32 {
					colours := 22528 + 256*third + 32*row + c
					l = append(l, cell{64*third + 8*row + within, c, uint16(addr), uint16(colours)})
					addr++
				}
			}
		}
	}
	return l
}

func TestAddressesWrittenOut(t *testing.T) {
	for _, x := range []cell{
		{0, 0, 16384, 22528}, {0, 1, 16385, 22529}, {0, 31, 16415, 22559}, {1, 0, 16640, 22528}, {7, 0, 18176, 22528},
		{8, 0, 16416, 22560}, {63, 31, 18431, 22783}, {64, 0, 18432, 22784}, {127, 31, 20479, 23039}, {128, 0, 20480, 23040},
		{191, 0, 22496, 23264}, {191, 31, 22527, 23295},
	} {
		if got, ok := Pixels(x.line, x.cell); got != x.pixels || !ok {
			t.Errorf("Pixels(%d, %d) is %d, %v", x.line, x.cell, got, ok)
		}
		if got, ok := Colours(x.line, x.cell); got != x.colours || !ok {
			t.Errorf("Colours(%d, %d) is %d, %v", x.line, x.cell, got, ok)
		}
	}
}

func TestAddressesOfAllCells(t *testing.T) {
	for _, x := range cells() {
		if got, ok := Pixels(x.line, x.cell); got != x.pixels || !ok {
			t.Fatalf("Pixels(%d, %d) is %d, %v", x.line, x.cell, got, ok)
		}
		if got, ok := Colours(x.line, x.cell); got != x.colours || !ok {
			t.Fatalf("Colours(%d, %d) is %d, %v", x.line, x.cell, got, ok)
		}
	}
}

func TestAddressesOfNoCell(t *testing.T) {
	check := func(line, cell int) {
		t.Helper()
		if got, ok := Pixels(line, cell); got != 0 || ok {
			t.Errorf("Pixels(%d, %d) is %d, %v", line, cell, got, ok)
		}
		if got, ok := Colours(line, cell); got != 0 || ok {
			t.Errorf("Colours(%d, %d) is %d, %v", line, cell, got, ok)
		}
	}
	lines := []int{-1, -8, -64, -192, 192, 193, 199, 200, 255, 256, 311, 65536, math.MinInt, math.MaxInt}
	rows := []int{-1, -8, -32, 32, 33, 63, 64, 255, 256, 65536, math.MinInt, math.MaxInt}
	for _, line := range lines {
		for cell := range 32 {
			check(line, cell)
		}
		for _, cell := range rows {
			check(line, cell)
		}
	}
	for _, cell := range rows {
		for line := range 192 {
			check(line, cell)
		}
	}
}

// 9.4

func TestFetchedWrittenOut(t *testing.T) {
	for _, x := range []struct {
		t     int
		addr  uint16
		place int
		ok    bool
	}{
		{0, 0, 0, false}, {14337, 0, 0, false},
		{14338, 16384, 0, true}, {14339, 22528, 1, true}, {14340, 16385, 2, true}, {14341, 22529, 3, true},
		{14342, 0, 0, false}, {14343, 0, 0, false}, {14344, 0, 0, false}, {14345, 0, 0, false},
		{14346, 16386, 4, true}, {14347, 22530, 5, true}, {14348, 16387, 6, true}, {14349, 22531, 7, true}, {14350, 0, 0, false},
		{14458, 16414, 60, true}, {14459, 22558, 61, true}, {14460, 16415, 62, true}, {14461, 22559, 63, true},
		{14462, 0, 0, false}, {14465, 0, 0, false}, {14466, 0, 0, false}, {14467, 0, 0, false}, {14561, 0, 0, false},
		{14562, 16640, 64, true}, {14563, 22528, 65, true}, {16130, 16416, 512, true}, {16131, 22560, 513, true},
		{57122, 22496, 12224, true}, {57245, 23295, 12287, true}, {57246, 0, 0, false}, {57250, 0, 0, false},
		{57345, 0, 0, false}, {57346, 0, 0, false}, {57347, 0, 0, false}, {69887, 0, 0, false},
		{14338 + 69888, 16384, 0, true}, {14341 - 69888, 22529, 3, true}, {-1, 0, 0, false},
	} {
		if got, ok := Fetched(x.t); got != x.addr || ok != x.ok {
			t.Errorf("Fetched(%d) is %d, %v", x.t, got, ok)
		}
		if got, ok := Place(x.t); got != x.place || ok != x.ok {
			t.Errorf("Place(%d) is %d, %v", x.t, got, ok)
		}
	}
}

// fetches are what is fetched at a time, and where it stands in a picture.
type fetches struct {
	addr  uint16
	place int
	ok    bool
}

// fetched is what is fetched at each time of a frame, gone through cell by cell.
func fetched() *[frame]fetches {
	l := new([frame]fetches)
	for _, x := range cells() {
		t := at(14338, x.line, x.cell/2*8+x.cell%2*2)
		place := (x.line*32 + x.cell) * 2
		l[t] = fetches{x.pixels, place, true}
		l[t+1] = fetches{x.colours, place + 1, true}
	}
	return l
}

func TestFetchedAtAllTimes(t *testing.T) {
	want := fetched()
	moved(func(when, n int) {
		if got, ok := Fetched(when); got != want[n].addr || ok != want[n].ok {
			t.Fatalf("Fetched(%d) is %d, %v, not %v", when, got, ok, want[n])
		}
		if got, ok := Place(when); got != want[n].place || ok != want[n].ok {
			t.Fatalf("Place(%d) is %d, %v, not %v", when, got, ok, want[n])
		}
	})
}

func TestAsks(t *testing.T) {
	moved(func(when, n int) {
		if got := Asks(when); got != (n < 32) {
			t.Fatalf("Asks(%d) is %v", when, got)
		}
	})
}

// 9.5

func TestEachByteIsFetchedOnce(t *testing.T) {
	var times [192 * 32 * 2]int
	var reads [65536]int
	for n := range frame {
		addr, some := Fetched(n)
		place, ok := Place(n)
		if some != ok {
			t.Fatalf("at %d: an address is %v, a place %v", n, some, ok)
		}
		if !ok {
			continue
		}
		if place < 0 || place >= len(times) {
			t.Fatalf("at %d: place %d", n, place)
		}
		times[place]++
		reads[addr]++
	}
	for place, n := range times {
		if n != 1 {
			t.Fatalf("place %d is fetched %d times", place, n)
		}
	}
	for addr, n := range reads {
		want := 0
		switch {
		case addr >= 16384 && addr < 22528:
			want = 1
		case addr >= 22528 && addr < 23296:
			want = 8
		}
		if n != want {
			t.Fatalf("address %d is read %d times, not %d", addr, n, want)
		}
	}
}

func TestNeverHeldForMoreThanSix(t *testing.T) {
	moved(func(when, n int) {
		if got := Wait(when); got < 0 || got > 6 {
			t.Fatalf("Wait(%d) is %d", when, got)
		}
		for kind := range 6 {
			for k := range 7 {
				for _, addr := range []uint16{0, 1, 16384, 16385, 32767, 32768} {
					if got := Hold(kind, addr, k, when); got < 0 || got > 6 {
						t.Fatalf("Hold(%d, %d, %d, %d) is %d", kind, addr, k, when, got)
					}
				}
			}
		}
	})
}
