package board

import (
	"bytes"
	"math"
	"slices"
	"testing"

	"squeal/api"
)

// frame is a frame's T-states, written out.
const frame = 69888

// filled is n bytes, each of which hangs on its place and on a seed.
func filled(n, seed int) []byte {
	l := make([]byte, n)
	for i := range l {
		l[i] = byte(i*7 + i>>8*13 + i>>11*5 + seed)
	}
	return l
}

// made is a board with noughts in its ROM and such bytes behind it.
func made(t *testing.T, ram []byte, phase int) *Board {
	t.Helper()
	b, err := New(make([]byte, 16384), ram, phase)
	if err != api.OK || b == nil {
		t.Fatalf("New is %v, %d", b == nil, err)
	}
	return b
}

// goOn has the time go on by n T-states.
func goOn(b *Board, n int) {
	for range n {
		b.Next()
	}
}

// fetch is what the ULA fetches at a time, and where that stands in a picture.
type fetch struct {
	addr, place int
	ok          bool
}

// fetches are what is fetched at each time of a frame: the cells are gone through
// as the chapter of the ULA tells, two of them in 8 T-states.
func fetches() *[frame]fetch {
	l := new([frame]fetch)
	for line := range 192 {
		for cell := range 32 {
			pixels := 16384 + line/64*2048 + line%8*256 + line/8%8*32 + cell
			colours := 22528 + line/8*32 + cell
			at := 14338 + 224*line + cell/2*8 + cell%2*2
			l[at] = fetch{pixels, (line*32 + cell) * 2, true}
			l[at+1] = fetch{colours, (line*32+cell)*2 + 1, true}
		}
	}
	return l
}

// waits are how long is waited at each time of a frame.
func waits() *[frame]int {
	l := new([frame]int)
	for line := range 192 {
		for place := range 128 {
			l[14335+224*line+place] = []int{6, 5, 4, 3, 2, 1, 0, 0}[place%8]
		}
	}
	return l
}

// state is all that a board tells.
type state struct {
	m              [65536]uint8
	down           []string
	slow, ear, log bool
	t              uint64
	frame          int
	border         uint8
	mic, speaker   bool
	asks           bool
	acts           []api.Act
	edges          []uint64
	picture        []byte
}

// stateOf is what a board tells now; the lists are copied, lest they be the board's.
func stateOf(b *Board) state {
	return state{
		m: b.M, down: b.Keys.Down(), slow: b.Slow, ear: b.Ear, log: b.Log, t: b.T(), frame: b.Frame(),
		border: b.Border(), mic: b.Mic(), speaker: b.Speaker(), asks: b.Int(),
		acts: slices.Clone(b.Acts()), edges: slices.Clone(b.Edges()), picture: slices.Clone(b.Picture()),
	}
}

// diff names the first thing in which two states are not the same.
func diff(a, b state) string {
	for _, x := range []struct {
		name string
		same bool
	}{
		{"memory", a.m == b.m}, {"keys", slices.Equal(a.down, b.down)}, {"Slow", a.slow == b.slow}, {"Ear", a.ear == b.ear},
		{"Log", a.log == b.log}, {"T", a.t == b.t}, {"Frame", a.frame == b.frame}, {"Border", a.border == b.border},
		{"Mic", a.mic == b.mic}, {"Speaker", a.speaker == b.speaker}, {"Int", a.asks == b.asks},
		{"Acts", slices.Equal(a.acts, b.acts)}, {"Edges", slices.Equal(a.edges, b.edges)}, {"Picture", bytes.Equal(a.picture, b.picture)},
	} {
		if !x.same {
			return x.name
		}
	}
	return ""
}

// same checks that a board tells what is wanted, and nothing else.
func same(t *testing.T, b *Board, want state) {
	t.Helper()
	if name := diff(stateOf(b), want); name != "" {
		t.Fatalf("%s is another one", name)
	}
}

// 11.1

func TestNewRefusesARom(t *testing.T) {
	for _, n := range []int{0, 1, 255, 8192, 16383, 16385, 32768, 49152, 65535, 65536, 65537, 100000} {
		for _, ram := range []int{0, 1, 49152, 49153, 65536} {
			if b, err := New(make([]byte, n), make([]byte, ram), 0); b != nil || err != api.ErrArg {
				t.Errorf("New with a ROM of %d and %d bytes behind is %v, %d", n, ram, b == nil, err)
			}
		}
	}
	if b, err := New(nil, nil, 0); b != nil || err != api.ErrArg {
		t.Errorf("New without a ROM is %v, %d", b == nil, err)
	}
}

func TestNewRefusesTooLongARam(t *testing.T) {
	for _, n := range []int{49153, 49154, 65535, 65536, 65537, 100000} {
		if b, err := New(make([]byte, 16384), make([]byte, n), 0); b != nil || err != api.ErrLong {
			t.Errorf("New with %d bytes behind the ROM is %v, %d", n, b == nil, err)
		}
	}
}

func TestNewMemory(t *testing.T) {
	rom := filled(16384, 1)
	for _, n := range []int{0, 1, 2, 6144, 6912, 32768, 49151, 49152} {
		ram := filled(n, 200)
		b, err := New(rom, ram, 0)
		if err != api.OK || b == nil {
			t.Fatalf("New with %d bytes behind the ROM is %d", n, err)
		}
		want := append(append(filled(16384, 1), filled(n, 200)...), make([]byte, 49152-n)...)
		if !bytes.Equal(b.M[:], want) {
			t.Errorf("with %d bytes behind the ROM the memory is another one", n)
		}
		if !bytes.Equal(rom, filled(16384, 1)) || !bytes.Equal(ram, filled(n, 200)) {
			t.Errorf("what was handed in is changed")
		}
	}
}

func TestNewIsAtFirst(t *testing.T) {
	b := made(t, nil, 100)
	same(t, b, state{frame: 100, picture: make([]byte, 12288)})
	if n := len(b.Picture()); n != 12288 {
		t.Errorf("a picture has %d bytes", n)
	}
}

func TestNewPhase(t *testing.T) {
	for _, x := range []struct{ phase, want int }{
		{0, 0}, {1, 1}, {31, 31}, {32, 32}, {14335, 14335}, {69887, 69887}, {69888, 0}, {69889, 1}, {139776, 0}, {139777, 1},
		{-1, 69887}, {-69887, 1}, {-69888, 0}, {-69889, 69887}, {1<<31 - 1, 2147483647 % 69888}, {-1 << 31, 69888 - 2147483648%69888},
		{math.MaxInt, math.MaxInt % frame}, {math.MinInt, frame + math.MinInt%frame},
	} {
		b := made(t, nil, x.phase)
		if b.Frame() != x.want || b.T() != 0 {
			t.Errorf("at the phase %d the frame's time is %d, T %d", x.phase, b.Frame(), b.T())
		}
		b.Next()
		if b.Frame() != (x.want+1)%frame || b.T() != 1 {
			t.Errorf("behind the phase %d the frame's time is %d, T %d", x.phase, b.Frame(), b.T())
		}
	}
}

func TestNewKeepsNothing(t *testing.T) {
	rom, ram := filled(16384, 3), filled(49152, 4)
	b, _ := New(rom, ram, 0)
	before := b.M
	clear(rom)
	clear(ram)
	if b.M != before {
		t.Error("the memory is that of what was handed in")
	}
	b.Write(40000, 9)
	b.M[5] = 77
	if ram[40000-16384] != 0 || rom[5] != 0 {
		t.Error("what was handed in is changed")
	}
}

// 11.2: Hold, Read, Write, Int

// holds tells at which T-states of a cycle (0 to 3) is waited at an address.
type holds struct {
	kind int
	addr uint16
	at   string
}

// someHolds are cycles of all kinds, at addresses that are slow and not, even and odd.
var someHolds = []holds{
	{0, 16384, "x..."}, {0, 32767, "x..."}, {0, 16383, "...."}, {0, 32768, "...."},
	{1, 16385, "x..."}, {1, 22528, "x..."}, {1, 0, "...."}, {1, 65535, "...."},
	{2, 20000, "x..."}, {2, 32766, "x..."}, {2, 16382, "...."}, {2, 50001, "...."},
	{3, 16384, "xx.."}, {3, 16639, "xxxx"}, {3, 254, ".x.."}, {3, 65278, ".x.."}, {3, 255, "...."}, {3, 32769, "...."},
	{4, 16384, "xxxx"}, {4, 32767, "xxxx"}, {4, 100, "...."}, {4, 32769, "...."},
	{5, 16384, "...."}, {5, 20001, "...."}, {5, 0, "...."},
	{6, 16384, "...."}, {-1, 16384, "...."}, {math.MaxInt, 16384, "...."}, {math.MinInt, 16385, "...."},
}

// holding checks someHolds where is waited for n T-states.
func holding(t *testing.T, b *Board, n int) {
	t.Helper()
	for _, x := range someHolds {
		for k, sign := range x.at {
			want := 0
			if sign == 'x' {
				want = n
			}
			if got := b.Hold(x.kind, x.addr, k); got != want {
				t.Fatalf("at %d Hold(%d, %d, %d) is %d, not %d", b.Frame(), x.kind, x.addr, k, got, want)
			}
		}
	}
}

func TestHoldWrittenOut(t *testing.T) {
	for _, x := range []struct{ phase, steps, wait int }{
		{0, 0, 0}, {14334, 0, 0}, {14335, 0, 6}, {14336, 0, 5}, {14340, 0, 1}, {14341, 0, 0}, {14343, 0, 6}, {14463, 0, 0},
		{14330, 5, 6}, {14330, 6, 5}, {-1, 14336, 6}, {69888 + 14335, 0, 6}, {57239, 0, 6}, {57343, 0, 0},
	} {
		b := made(t, nil, x.phase)
		b.Slow = true
		goOn(b, x.steps)
		holding(t, b, x.wait)
		b.Slow = false
		holding(t, b, 0)
	}
}

func TestHoldAtAllTimes(t *testing.T) {
	want := waits()
	b := made(t, nil, 60000)
	for n := range frame {
		b.Slow = true
		holding(t, b, want[(60000+n)%frame])
		b.Slow = false
		holding(t, b, 0)
		b.Next()
	}
}

func TestHoldChangesNothing(t *testing.T) {
	b := made(t, filled(49152, 1), 14335)
	b.Slow, b.Log = true, true
	before := stateOf(b)
	holding(t, b, 6)
	same(t, b, before)
}

func TestReadAtAllAddresses(t *testing.T) {
	b, _ := New(filled(16384, 50), filled(49152, 60), 0)
	before := stateOf(b)
	for addr, want := range append(filled(16384, 50), filled(49152, 60)...) {
		if got := b.Read(uint16(addr)); got != want {
			t.Fatalf("Read(%d) is %d, not %d", addr, got, want)
		}
	}
	same(t, b, before)
	b.M[100], b.M[16384], b.M[65535] = 11, 12, 13
	if b.Read(100) != 11 || b.Read(16384) != 12 || b.Read(65535) != 13 {
		t.Error("what was put into M isn't read")
	}
}

func TestWriteAtAllAddresses(t *testing.T) {
	b, _ := New(filled(16384, 50), filled(49152, 60), 0)
	want := stateOf(b)
	for addr := range 65536 {
		v := ^want.m[addr]
		b.Write(uint16(addr), v)
		if addr >= 16384 {
			want.m[addr] = v
		}
		if got := b.Read(uint16(addr)); got != want.m[addr] {
			t.Fatalf("behind Write(%d, %d) Read is %d", addr, v, got)
		}
	}
	same(t, b, want)
}

func TestWriteChangesOneByte(t *testing.T) {
	for _, addr := range []uint16{16384, 16385, 22528, 32767, 32768, 65534, 65535} {
		for v := range 256 {
			b := made(t, filled(49152, 9), 14338)
			b.Log = true
			want := stateOf(b)
			b.Write(addr, uint8(v))
			want.m[addr] = uint8(v)
			same(t, b, want)
		}
	}
}

func TestIntAtAllTimes(t *testing.T) {
	for _, phase := range []int{0, 1, 31, 32, 40000, 69887, -1, -40} {
		b := made(t, nil, phase)
		for n := range frame + 100 {
			if got := b.Int(); got != ((phase+n+frame)%frame < 32) {
				t.Fatalf("at the phase %d and T %d Int is %v", phase, n, got)
			}
			b.Next()
		}
	}
}

// 11.2: In

func TestInWrittenOut(t *testing.T) {
	for _, x := range []struct {
		key  string
		ear  bool
		port uint16
		want uint8
	}{
		{"", false, 65278, 191}, {"", true, 65278, 255}, {"", false, 0, 191}, {"", true, 0, 255}, {"", false, 254, 191},
		{"space", false, 32766, 190}, {"space", false, 32512, 190}, {"space", false, 254, 190}, {"space", true, 32766, 254},
		{"space", false, 65278, 191}, {"space", false, 65534, 191}, {"caps", false, 65278, 190}, {"caps", false, 65024, 190},
		{"v", false, 65278, 175}, {"v", true, 65278, 239}, {"5", false, 63486, 175}, {"6", false, 61438, 175}, {"enter", false, 49150, 190},
		{"h", false, 49150, 175}, {"g", true, 65022, 239}, {"q", false, 64510, 190}, {"q", false, 64766, 191}, {"p", false, 57342, 190},
	} {
		b := made(t, nil, 0)
		b.Ear = x.ear
		if x.key != "" {
			if err := b.Keys.Press(x.key); err != api.OK {
				t.Fatal(err)
			}
		}
		if got := b.In(x.port); got != x.want {
			t.Errorf("with %q down and EAR %v In(%d) is %d, not %d", x.key, x.ear, x.port, got, x.want)
		}
	}
}

func TestInOfAllEvenPorts(t *testing.T) {
	b := made(t, filled(49152, 3), 14338)
	for _, name := range []string{"z", "f", "4", "y", "space"} {
		if err := b.Keys.Press(name); err != api.OK {
			t.Fatal(err)
		}
	}
	rows := []struct{ row, bit int }{{0, 1}, {1, 3}, {3, 3}, {5, 4}, {7, 0}}
	for port := 0; port < 65536; port += 2 {
		low := 0
		for _, x := range rows {
			if port>>8>>x.row%2 == 0 {
				low |= 1 << x.bit
			}
		}
		want := 32 + 128 + 31 - low
		b.Ear = false
		if got := b.In(uint16(port)); int(got) != want {
			t.Fatalf("In(%d) is %d, not %d", port, got, want)
		}
		b.Ear = true
		if got := b.In(uint16(port)); int(got) != want+64 {
			t.Fatalf("with EAR high In(%d) is %d, not %d", port, got, want+64)
		}
	}
}

func TestInOfOddPortsAtAllTimes(t *testing.T) {
	want := fetches()
	ports := []uint16{1, 255, 16385, 16639, 32767, 65279, 65535}
	b := made(t, filled(49152, 77), 50000)
	for n := range frame {
		x, v := want[(50000+n)%frame], 255
		if x.ok {
			v = int(b.M[x.addr])
		}
		for _, port := range ports {
			if got := b.In(port); int(got) != v {
				t.Fatalf("at %d In(%d) is %d, not %d", b.Frame(), port, got, v)
			}
		}
		b.Next()
	}
}

func TestInOfAllOddPorts(t *testing.T) {
	for _, x := range []struct {
		phase int
		want  uint8
	}{{14337, 255}, {14338, 41}, {14339, 42}, {14340, 43}, {14341, 44}, {14342, 255}, {0, 255}} {
		b := made(t, nil, x.phase)
		b.M[16384], b.M[22528], b.M[16385], b.M[22529] = 41, 42, 43, 44
		b.Ear = true
		if err := b.Keys.Press("a"); err != api.OK {
			t.Fatal(err)
		}
		for port := 1; port < 65536; port += 2 {
			if got := b.In(uint16(port)); got != x.want {
				t.Fatalf("at %d In(%d) is %d, not %d", x.phase, port, got, x.want)
			}
		}
	}
}

func TestInOfAnOddPortTellsWhatIsWritten(t *testing.T) {
	b := made(t, nil, 14338)
	for v := range 256 {
		b.Write(16384, uint8(v))
		if got := b.In(255); int(got) != v {
			t.Fatalf("In(255) is %d, not %d", got, v)
		}
	}
}

func TestInChangesNothing(t *testing.T) {
	b := made(t, filled(49152, 3), 14338)
	b.Out(254, 29)
	before := stateOf(b)
	for port := range 65536 {
		b.In(uint16(port))
	}
	same(t, b, before)
}

// 11.2: Out

func TestOutOfAllBytes(t *testing.T) {
	b := made(t, nil, 0)
	for first := range 256 {
		for v := range 256 {
			b.Out(254, uint8(first))
			b.Out(0, uint8(v))
			if int(b.Border()) != v%8 || b.Mic() != (v/8%2 == 1) || b.Speaker() != (v/16%2 == 1) {
				t.Fatalf("behind %d and %d: border %d, MIC %v, speaker %v", first, v, b.Border(), b.Mic(), b.Speaker())
			}
		}
	}
}

func TestOutToAllPorts(t *testing.T) {
	b := made(t, filled(49152, 8), 100)
	want := stateOf(b)
	for port := 1; port < 65536; port += 2 {
		for _, v := range []uint8{0, 7, 8, 16, 31, 255} {
			b.Out(uint16(port), v)
		}
	}
	same(t, b, want)
	b.Log = true
	want.log = true
	b.Out(255, 31)
	b.Out(32767, 31)
	same(t, b, want)
	b.Log = false
	want.log = false
	for port := 0; port < 65536; port += 2 {
		v := port >> 1 * 9 & 255
		b.Out(uint16(port), uint8(v))
		if high := v/8%2 == 1; high != want.mic {
			want.mic, want.edges = high, append(want.edges, 0)
		}
		want.border, want.speaker = uint8(v%8), v/16%2 == 1
		if b.Border() != want.border || b.Mic() != want.mic || b.Speaker() != want.speaker {
			t.Fatalf("behind Out(%d, %d): border %d, MIC %v, speaker %v", port, v, b.Border(), b.Mic(), b.Speaker())
		}
	}
	same(t, b, want)
}

func TestEdgesWrittenOut(t *testing.T) {
	b := made(t, nil, 5)
	for _, x := range []struct {
		steps int
		v     uint8
	}{
		{0, 0}, {0, 7}, {3, 23}, {0, 8}, {0, 8}, {1, 15}, {1, 24}, {5, 16}, {0, 0}, {0, 255}, {0, 247}, {70000, 8}, {1, 10},
	} {
		goOn(b, x.steps)
		b.Out(254, x.v)
	}
	if got, want := b.Edges(), []uint64{3, 10, 10, 10, 70010}; !slices.Equal(got, want) {
		t.Errorf("the edges are %v, not %v", got, want)
	}
}

func TestLogWrittenOut(t *testing.T) {
	b := made(t, nil, 14338)
	b.In(254)
	b.Out(254, 1)
	b.Log = true
	b.In(65278)
	b.In(65279)
	b.Out(254, 13)
	b.Out(255, 2)
	b.Read(16384)
	b.Write(16384, 1)
	goOn(b, 7)
	b.Ear = true
	if err := b.Keys.Press("space"); err != api.OK {
		t.Fatal(err)
	}
	b.In(32766)
	b.Out(0, 255)
	b.Out(0, 255)
	b.Paint(3)
	b.Log = false
	b.In(254)
	b.Out(254, 1)
	goOn(b, 1)
	b.Log = true
	b.Out(65534, 0)
	want := []api.Act{
		{T: 0, Out: false, Port: 65278, V: 191}, {T: 0, Out: true, Port: 254, V: 13},
		{T: 7, Out: false, Port: 32766, V: 254}, {T: 7, Out: true, Port: 0, V: 255}, {T: 7, Out: true, Port: 0, V: 255},
		{T: 8, Out: true, Port: 65534, V: 0},
	}
	if got := b.Acts(); !slices.Equal(got, want) {
		t.Errorf("the acts are %v, not %v", got, want)
	}
	if got, want := b.Edges(), []uint64{0, 7}; !slices.Equal(got, want) {
		t.Errorf("the edges are %v, not %v", got, want)
	}
}

func TestPaint(t *testing.T) {
	for _, first := range []uint8{0, 255, 24, 13} {
		b := made(t, filled(49152, 8), 14338)
		b.Log = true
		b.Out(254, first)
		want := stateOf(b)
		for v := range 256 {
			b.Paint(uint8(v))
			want.border = uint8(v % 8)
			same(t, b, want)
		}
	}
}

// 11.3

func TestNextCounts(t *testing.T) {
	b := made(t, nil, 69885)
	want := []int{69885, 69886, 69887, 0, 1, 2}
	for n, time := range want {
		if b.T() != uint64(n) || b.Frame() != time {
			t.Errorf("T is %d and the frame's time %d, not %d and %d", b.T(), b.Frame(), n, time)
		}
		b.Next()
	}
	goOn(b, 3*frame-6)
	if b.T() != 209664 || b.Frame() != 69885 {
		t.Errorf("behind three frames T is %d, the frame's time %d", b.T(), b.Frame())
	}
}

func TestNextChangesNothingElse(t *testing.T) {
	b, _ := New(filled(16384, 1), filled(49152, 2), 0)
	b.Slow, b.Ear, b.Log = true, true, true
	if err := b.Keys.Press("m"); err != api.OK {
		t.Fatal(err)
	}
	b.Out(254, 29)
	want := stateOf(b)
	goOn(b, 40)
	want.t, want.frame, want.asks = 40, 40, false
	same(t, b, want)
}

func TestPictureByteByByte(t *testing.T) {
	b := made(t, nil, 14336)
	for addr := 16384; addr < 23296; addr++ {
		b.M[addr] = 255
	}
	want := make([]byte, 12288)
	for n, place := range []int{-1, -1, 0, 1, 2, 3, -1, -1, -1, -1, 4, 5, 6, 7, -1} {
		if !bytes.Equal(b.Picture(), want) {
			t.Fatalf("ahead of the T-state %d the picture is another one", n)
		}
		b.Next()
		if place >= 0 {
			want[place] = 255
		}
		if !bytes.Equal(b.Picture(), want) {
			t.Fatalf("behind the T-state %d the picture is another one", n)
		}
	}
}

func TestPictureIsOfTheTimeOfTheFetch(t *testing.T) {
	b := made(t, nil, 14338)
	b.Write(16384, 1)
	b.Write(22528, 2)
	b.Next()
	b.Write(16384, 11)
	b.Write(22528, 12)
	b.Next()
	b.Write(22528, 22)
	if l := b.Picture(); l[0] != 1 || l[1] != 12 {
		t.Errorf("the picture begins with %d, %d, not with 1, 12", l[0], l[1])
	}
	goOn(b, frame)
	if l := b.Picture(); l[0] != 11 || l[1] != 22 {
		t.Errorf("a frame later the picture begins with %d, %d, not with 11, 22", l[0], l[1])
	}
}

func TestPictureAtAllTimes(t *testing.T) {
	times := fetches()
	b := made(t, nil, 30000)
	want := make([]byte, 12288)
	for n := range 2 * frame {
		x := times[(30000+n)%frame]
		if x.ok {
			v := byte(n*31 + n>>8)
			b.M[x.addr], want[x.place] = v, v
		}
		b.Next()
		if n%4099 == 0 && !bytes.Equal(b.Picture(), want) {
			t.Fatalf("behind the T-state %d the picture is another one", n)
		}
	}
	if !bytes.Equal(b.Picture(), want) {
		t.Error("the picture is another one")
	}
}

// busy is a board on which something has been done to all that it keeps.
func busy(t *testing.T) *Board {
	t.Helper()
	b, err := New(filled(16384, 1), filled(49152, 2), 14000)
	if err != api.OK {
		t.Fatal(err)
	}
	b.Slow, b.Ear, b.Log = true, true, true
	if err := b.Keys.Press("k"); err != api.OK {
		t.Fatal(err)
	}
	goOn(b, 500)
	for _, v := range []uint8{8, 16, 29} {
		b.Out(254, v)
		b.In(254)
		b.Next()
	}
	return b
}

func TestAnswersAreCopies(t *testing.T) {
	b := busy(t)
	before := stateOf(b)
	for range 2 {
		acts, edges, picture := b.Acts(), b.Edges(), b.Picture()
		if len(acts) != 6 || len(edges) != 3 || len(picture) != 12288 {
			t.Fatalf("%d acts, %d edges, a picture of %d bytes", len(acts), len(edges), len(picture))
		}
		for i := range acts {
			acts[i] = api.Act{T: 99, Port: 99}
		}
		for i := range edges {
			edges[i] = 99
		}
		for i := range picture {
			picture[i]++
		}
		_, _, _ = append(acts, api.Act{}), append(edges, 98), append(picture, 97)
		same(t, b, before)
	}
	acts, edges, picture := b.Acts(), b.Edges(), b.Picture()
	b.Out(254, 0)
	b.Out(254, 8)
	goOn(b, frame)
	if !slices.Equal(acts, before.acts) || !slices.Equal(edges, before.edges) || !bytes.Equal(picture, before.picture) {
		t.Error("what was told is changed by what is done later")
	}
}

// stir does something to all that a board keeps.
func stir(t *testing.T, b *Board, seed int) {
	t.Helper()
	for n := range 2000 {
		b.Write(uint16(16384+n*17), uint8(n+seed))
		b.Out(254, uint8(n*seed+n>>3))
		b.In(254)
		b.Next()
	}
	b.Keys.Release("k")
	if err := b.Keys.Press("1"); err != api.OK {
		t.Fatal(err)
	}
	b.M[seed] = uint8(seed)
	b.Slow, b.Ear, b.Log = !b.Slow, !b.Ear, !b.Log
}

func TestCopyIsTheSame(t *testing.T) {
	b := busy(t)
	before := stateOf(b)
	c := b.Copy()
	if c == b {
		t.Fatal("a copy is the board itself")
	}
	same(t, c, before)
	same(t, b, before)
	if c.In(255) != b.In(255) || c.Hold(0, 16384, 0) != b.Hold(0, 16384, 0) {
		t.Error("a copy answers otherwise")
	}
	stir(t, b, 7)
	same(t, c, before)
	stir(t, c, 7)
	same(t, c, stateOf(b))
}

func TestCopiesGoTheirOwnWays(t *testing.T) {
	b := busy(t)
	before := stateOf(b)
	c, d := b.Copy(), b.Copy()
	stir(t, c, 7)
	after := stateOf(c)
	same(t, b, before)
	same(t, d, before)
	stir(t, d, 11)
	stir(t, b, 5)
	same(t, c, after)
	if diff(stateOf(d), after) == "" || diff(stateOf(b), after) == "" {
		t.Error("boards to which other things are done are the same")
	}
}

func TestCopiesAddToTheirOwnLists(t *testing.T) {
	b := busy(t)
	for range 20 {
		c := b.Copy()
		b.Out(254, 0)
		ofBoard := stateOf(b)
		c.Next()
		c.Out(254, 2)
		c.Out(254, 9)
		ofCopy := stateOf(c)
		same(t, b, ofBoard)
		b.Next()
		b.Out(254, 8)
		same(t, c, ofCopy)
	}
}

func TestCopyAtFirst(t *testing.T) {
	b := made(t, nil, -1)
	c := b.Copy()
	same(t, c, stateOf(b))
	c.Next()
	if c.Frame() != 0 || b.Frame() != 69887 || c.T() != 1 || b.T() != 0 {
		t.Error("a copy's time is the board's")
	}
}

// 11.4

func TestTheRomIsNeverWritten(t *testing.T) {
	rom := filled(16384, 44)
	b, _ := New(rom, filled(49152, 9), 14300)
	for addr := range 65536 {
		b.Write(uint16(addr), uint8(addr*3+1))
		b.Out(uint16(addr), uint8(addr))
		b.In(uint16(addr))
		b.Next()
	}
	if !bytes.Equal(b.M[:16384], rom) {
		t.Error("the ROM is written")
	}
}

// screen is the picture that a memory shows: of each cell its byte and its
// attribute, line by line.
func screen(m []byte) []byte {
	var l []byte
	for line := range 192 {
		for cell := range 32 {
			l = append(l, m[16384+line/64*2048+line%8*256+line/8%8*32+cell], m[22528+line/8*32+cell])
		}
	}
	return l
}

func TestThePictureBecomesTheScreen(t *testing.T) {
	for _, phase := range []int{0, 1, 14338, 14339, 14340, 30000, 57245, 57246, 69887, -14338} {
		b := made(t, filled(6912, phase), phase)
		goOn(b, frame)
		if !bytes.Equal(b.Picture(), screen(b.M[:])) {
			t.Errorf("from the phase %d on the picture isn't the screen", phase)
		}
		before := b.Picture()
		copy(b.M[16384:], filled(6912, phase+100))
		if !bytes.Equal(b.Picture(), before) {
			t.Error("a picture is changed without a T-state")
		}
		goOn(b, frame)
		if !bytes.Equal(b.Picture(), screen(b.M[:])) {
			t.Errorf("from the phase %d on the next picture isn't the screen", phase)
		}
	}
}

func TestAPictureTakesItsTime(t *testing.T) {
	b := made(t, bytes.Repeat([]byte{255}, 6912), 0)
	goOn(b, 57245)
	if bytes.Equal(b.Picture(), screen(b.M[:])) {
		t.Error("the picture is the screen ahead of the last fetch")
	}
	b.Next()
	if !bytes.Equal(b.Picture(), screen(b.M[:])) {
		t.Error("the picture isn't the screen behind the last fetch")
	}
}

// All together: many calls, one behind the other, held against what the chapter's
// words ask of each.

// model is a board as the chapter tells it, with the keys that are down by name.
type model struct {
	state
	phase int
	times *[frame]fetch
}

// in is what comes in from a port, reckoned with no key down but the first of each
// row: bit 0 is 0 if a row that is read has its first key down.
func (m *model) in(port int) int {
	now := (m.phase + int(m.t)) % frame
	if port%2 == 1 {
		if x := m.times[now]; x.ok {
			return int(m.m[x.addr])
		}
		return 255
	}
	v := 128 + 32 + 31
	if m.ear {
		v += 64
	}
	for row, name := range []string{"caps", "a", "q", "1", "0", "p", "enter", "space"} {
		if port>>8>>row%2 == 0 && slices.Contains(m.down, name) {
			v = v / 2 * 2
		}
	}
	if m.log {
		m.acts = append(m.acts, api.Act{T: m.t, Port: uint16(port), V: uint8(v)})
	}
	return v
}

func (m *model) out(port, v int) {
	if port%2 == 1 {
		return
	}
	m.border, m.speaker = uint8(v%8), v/16%2 == 1
	if high := v/8%2 == 1; high != m.mic {
		m.mic, m.edges = high, append(m.edges, m.t)
	}
	if m.log {
		m.acts = append(m.acts, api.Act{T: m.t, Out: true, Port: uint16(port), V: uint8(v)})
	}
}

func (m *model) next() {
	if x := m.times[(m.phase+int(m.t))%frame]; x.ok {
		m.picture[x.place] = m.m[x.addr]
	}
	m.t++
	m.frame = (m.phase + int(m.t)) % frame
	m.asks = m.frame < 32
}

// turn does to both one thing of several, as three numbers choose it.
func (m *model) turn(t *testing.T, b *Board, what, x, y int) {
	t.Helper()
	switch what {
	case 0:
		b.Write(uint16(x), uint8(y))
		if x >= 16384 {
			m.m[x] = uint8(y)
		}
	case 1:
		b.Out(uint16(x), uint8(y))
		m.out(x, y%256)
	case 2:
		if got, want := b.In(uint16(x)), m.in(x); int(got) != want {
			t.Fatalf("at %d In(%d) is %d, not %d", m.frame, x, got, want)
		}
	case 3:
		if got := b.Read(uint16(x)); got != m.m[x] {
			t.Fatalf("Read(%d) is %d, not %d", x, got, m.m[x])
		}
	case 4:
		b.Paint(uint8(y))
		m.border = uint8(y % 8)
	case 5:
		b.Slow, b.Ear, b.Log = x%2 == 0, x%3 == 0, x%4 > 0
		m.slow, m.ear, m.log = b.Slow, b.Ear, b.Log
	case 6:
		addr := 16384 + x%6912
		b.M[addr], m.m[addr] = uint8(y), uint8(y)
	}
	for range 1 + y%40 {
		b.Next()
		m.next()
	}
}

func TestManyCalls(t *testing.T) {
	for _, phase := range []int{0, 14000, 57000, 69800} {
		rom, ram := filled(16384, phase), filled(49152, phase+1)
		b, _ := New(rom, ram, phase)
		for _, name := range []string{"a", "0", "space"} {
			if err := b.Keys.Press(name); err != api.OK {
				t.Fatal(err)
			}
		}
		m := &model{state: stateOf(b), phase: phase, times: fetches()}
		n := uint32(phase + 1)
		for i := range 20000 {
			n = n*1664525 + 1013904223
			m.turn(t, b, int(n>>29), int(n>>8&65535), int(n>>3&1023))
			if i%997 == 0 {
				same(t, b, m.state)
			}
		}
		same(t, b, m.state)
	}
}

// A board that isn't there

func TestNilBoard(t *testing.T) {
	var b *Board
	b.Write(16384, 1)
	b.Out(254, 255)
	b.Paint(7)
	b.Next()
	for n := range 65536 {
		if b.Read(uint16(n)) != 255 || b.In(uint16(n)) != 255 {
			t.Fatalf("at %d a nil board has Read %d, In %d", n, b.Read(uint16(n)), b.In(uint16(n)))
		}
	}
	holding(t, nil, 0)
	if b.Int() || b.Mic() || b.Speaker() {
		t.Error("a nil board tells true")
	}
	if b.T() != 0 || b.Frame() != 0 || b.Border() != 0 {
		t.Error("a nil board tells another number than 0")
	}
	if b.Acts() != nil || b.Edges() != nil || b.Picture() != nil || b.Copy() != nil {
		t.Error("a nil board tells something")
	}
}
