package spell

import (
	"bytes"
	"slices"
	"strings"
	"testing"

	"squeal/api"
	"squeal/tzx"
)

// head is the beginning of a file of version 1.20.
const head = "ZXTape!\x1a\x01\x14"

// zeros is n bytes of 0.
func zeros(n int) string {
	return strings.Repeat("\x00", n)
}

// one is a byte as text.
func one(n int) string {
	return string([]byte{byte(n)})
}

// chance is a row of numbers by a short rule.
type chance uint64

func (c *chance) below(n int) int {
	*c = *c*6364136223846793005 + 1442695040888963407
	return int(uint64(*c) >> 33 % uint64(n))
}

// bytes is n bytes by chance.
func (c *chance) bytes(n int) []byte {
	l := make([]byte, n)
	for i := range l {
		l[i] = byte(c.below(256))
	}
	return l
}

// numbers is n numbers below most by chance.
func (c *chance) numbers(n, most int) []int {
	l := make([]int, n)
	for i := range l {
		l[i] = c.below(most)
	}
	return l
}

// written is a block, and how it stands in a file. Some need blocks of their own
// kind ahead or behind.
type written struct {
	b             api.Block
	file          string
	ahead, behind []written
}

var (
	opened = []written{{b: api.Block{ID: 33}, file: "\x21\x00"}}
	closed = []written{{b: api.Block{ID: 34}, file: "\x22"}}
	begun  = []written{{b: api.Block{ID: 36, Count: 2}, file: "\x24\x02\x00"}}
	ended  = []written{{b: api.Block{ID: 37}, file: "\x25"}}
	back   = []written{{b: api.Block{ID: 39}, file: "\x27"}}
)

// whole is a written block with those that it needs.
func (w written) whole() []written {
	return slices.Concat(w.ahead, []written{w}, w.behind)
}

// tapeOf is a tape of version 1.20, and its file.
func tapeOf(l []written) (api.Tape, string) {
	x := api.Tape{Major: 1, Minor: 20}
	file := head
	for _, w := range l {
		x.Blocks = append(x.Blocks, w.b)
		file += w.file
	}
	return x, file
}

// soundBlocks are those with pulses.
func soundBlocks() []written {
	return []written{
		{b: api.Block{ID: 16, Pause: 1000, Data: []byte{1, 2, 3}}, file: "\x10\xe8\x03\x03\x00\x01\x02\x03"},
		{b: api.Block{ID: 16, Pause: 65535}, file: "\x10\xff\xff\x00\x00"},
		{b: api.Block{ID: 16, Pause: 0x8001, Data: make([]byte, 258)}, file: "\x10\x01\x80\x02\x01" + zeros(258)},
		{b: api.Block{ID: 16, Data: make([]byte, 65535)}, file: "\x10\x00\x00\xff\xff" + zeros(65535)},
		{b: api.Block{ID: 17, Pilot: 2168, Sync1: 667, Sync2: 735, Zero: 855, One: 1710, Count: 3223, Used: 7, Pause: 65534, Data: []byte("ab")},
			file: "\x11\x78\x08\x9b\x02\xdf\x02\x57\x03\xae\x06\x97\x0c\x07\xfe\xff\x02\x00\x00ab"},
		{b: api.Block{ID: 17, Pilot: 65535, Sync1: 65534, Sync2: 65533, Zero: 65532, One: 65531, Count: 65530, Used: 255, Pause: 65529, Data: make([]byte, 0x10203)},
			file: "\x11\xff\xff\xfe\xff\xfd\xff\xfc\xff\xfb\xff\xfa\xff\xff\xf9\xff\x03\x02\x01" + zeros(0x10203)},
		{b: api.Block{ID: 18, Tone: 0x1234, Count: 0xf678}, file: "\x12\x34\x12\x78\xf6"},
		{b: api.Block{ID: 19, Times: []int{3, 0, 0xff02}}, file: "\x13\x03\x03\x00\x00\x00\x02\xff"},
		{b: api.Block{ID: 19}, file: "\x13\x00"},
		{b: api.Block{ID: 19, Times: append(make([]int, 254), 65535)}, file: "\x13\xff" + zeros(508) + "\xff\xff"},
		{b: api.Block{ID: 20, Zero: 0x201, One: 0xf403, Used: 245, Pause: 0xf706, Data: []byte("z")}, file: "\x14\x01\x02\x03\xf4\xf5\x06\xf7\x01\x00\x00z"},
		{b: api.Block{ID: 20, Zero: 0xf2f1, One: 0x403, Used: 5, Pause: 0x706, Data: make([]byte, 256)}, file: "\x14\xf1\xf2\x03\x04\x05\x06\x07\x00\x01\x00" + zeros(256)},
		{b: api.Block{ID: 21, Rate: 79, Pause: 0xf201, Used: 255, Data: []byte{240, 15}}, file: "\x15\x4f\x00\x01\xf2\xff\x02\x00\x00\xf0\x0f"},
		{b: api.Block{ID: 21, Rate: 0xf201, Pause: 79, Used: 3, Data: make([]byte, 0x10000)}, file: "\x15\x01\xf2\x4f\x00\x03\x00\x00\x01" + zeros(0x10000)},
		{b: api.Block{ID: 24, Pause: 0xf201, Rate: 0xf1ac44, Pack: 242, Count: 0xf8070605, Data: []byte("xyz")},
			file: "\x18\x0d\x00\x00\x00\x01\xf2\x44\xac\xf1\xf2\x05\x06\x07\xf8xyz"},
		{b: api.Block{ID: 24}, file: "\x18\x0a\x00\x00\x00" + zeros(10)},
		{b: api.Block{ID: 24, Pack: 1, Count: 1, Data: make([]byte, 0x10101)}, file: "\x18\x0b\x01\x01\x00\x00\x00\x00\x00\x00\x01\x01\x00\x00\x00" + zeros(0x10101)},
		{b: api.Block{ID: 32, Pause: 0xf201}, file: "\x20\x01\xf2"},
		{b: api.Block{ID: 32}, file: "\x20\x00\x00"},
	}
}

// generalBlocks are generalised ones.
func generalBlocks() []written {
	many := make([]api.Sym, 256)
	many[255].Kind = 200
	long := api.Sym{Kind: 9, Pulses: append(make([]int, 254), 0xf102)}
	return []written{
		{b: api.Block{ID: 25, Pause: 0xf00a, Pilot: 2, Sync1: 2, Count: 5, Zero: 1, One: 3,
			Pilots: []api.Sym{{Kind: 0, Pulses: []int{2168, 0}}, {Kind: 1, Pulses: []int{667, 0xf2df}}},
			Reps:   []api.Rep{{Sym: 0, Times: 3223}, {Sym: 1, Times: 0xf001}},
			Syms:   []api.Sym{{Kind: 0, Pulses: []int{855}}, {Kind: 242, Pulses: []int{1710}}, {Kind: 3, Pulses: []int{1}}},
			Data:   []byte{0x19, 0x3f}},
			file: "\x19\x29\x00\x00\x00\x0a\xf0\x02\x00\x00\x00\x02\x02\x05\x00\x00\x00\x01\x03" +
				"\x00\x78\x08\x00\x00\x01\x9b\x02\xdf\xf2\x00\x97\x0c\x01\x01\xf0" +
				"\x00\x57\x03\xf2\xae\x06\x03\x01\x00\x19\x3f"},
		// Nothing of both, though the numbers tell symbols.
		{b: api.Block{ID: 25, Pilot: 2, Sync1: 243, Zero: 4, One: 245}, file: "\x19\x0e\x00\x00\x00\x00\x00\x00\x00\x00\x00\x02\xf3\x00\x00\x00\x00\x04\xf5"},
		// Reps alone.
		{b: api.Block{ID: 25, Pilot: 1, Sync1: 1, Zero: 4, One: 5, Pilots: []api.Sym{{Kind: 255, Pulses: []int{0x201}}}, Reps: []api.Rep{{Sym: 0, Times: 65535}}},
			file: "\x19\x14\x00\x00\x00\x00\x00\x01\x00\x00\x00\x01\x01\x00\x00\x00\x00\x04\x05\xff\x01\x02\x00\xff\xff"},
		// Data alone, of one bit each.
		{b: api.Block{ID: 25, Pilot: 1, Sync1: 1, Count: 9, Zero: 2, One: 2, Syms: []api.Sym{{Pulses: []int{1, 2}}, {Kind: 1, Pulses: []int{3, 4}}}, Data: []byte{0xa5, 0xff}},
			file: "\x19\x1a\x00\x00\x00\x00\x00\x00\x00\x00\x00\x01\x01\x09\x00\x00\x00\x02\x02\x00\x01\x00\x02\x00\x01\x03\x00\x04\x00\xa5\xff"},
		// Symbols of no bits, as many as there may be.
		{b: api.Block{ID: 25, Count: 1<<32 - 1, One: 1, Syms: []api.Sym{{Kind: 7}}},
			file: "\x19\x0f\x00\x00\x00\x00\x00\x00\x00\x00\x00\x00\x00\xff\xff\xff\xff\x00\x01\x07"},
		// 256 symbols of both, without pulses.
		{b: api.Block{ID: 25, Count: 2, Pilots: many, Reps: []api.Rep{{Sym: 255, Times: 1}}, Syms: many, Data: []byte{255, 0}},
			file: "\x19\x13\x02\x00\x00\x00\x00\x01\x00\x00\x00\x00\x00\x02\x00\x00\x00\x00\x00" + zeros(255) + "\xc8\xff\x01\x00" + zeros(255) + "\xc8\xff\x00"},
		// As many pulses as there may be, and many Reps.
		{b: api.Block{ID: 25, Pilot: 255, Sync1: 1, Pilots: []api.Sym{long}, Reps: slices.Repeat([]api.Rep{{Times: 0x201}}, 0x102)},
			file: "\x19\x13\x05\x00\x00\x00\x00\x02\x01\x00\x00\xff\x01\x00\x00\x00\x00\x00\x00\x09" + zeros(508) + "\x02\xf1" + strings.Repeat("\x00\x01\x02", 0x102)},
		{b: api.Block{ID: 25, Count: 1, Zero: 255, One: 1, Syms: []api.Sym{long}},
			file: "\x19\x0d\x02\x00\x00\x00\x00\x00\x00\x00\x00\x00\x00\x01\x00\x00\x00\xff\x01\x09" + zeros(508) + "\x02\xf1"},
	}
}

// otherBlocks are those that lead elsewhere or tell something.
func otherBlocks() []written {
	return []written{
		{b: api.Block{ID: 33, Data: []byte("abc")}, file: "\x21\x03abc", behind: closed},
		{b: api.Block{ID: 33}, file: "\x21\x00", behind: closed},
		{b: api.Block{ID: 33, Data: make([]byte, 255)}, file: "\x21\xff" + zeros(255), behind: closed},
		{b: api.Block{ID: 34}, file: "\x22", ahead: opened},
		{b: api.Block{ID: 35, Times: []int{0}}, file: "\x23\x00\x00"},
		{b: api.Block{ID: 35, Times: []int{-2}}, file: "\x23\xfe\xff", ahead: slices.Concat(back, back)},
		{b: api.Block{ID: 35, Times: []int{3}}, file: "\x23\x03\x00", behind: slices.Concat(back, back, back)},
		{b: api.Block{ID: 36, Count: 0xf002}, file: "\x24\x02\xf0", behind: ended},
		{b: api.Block{ID: 37}, file: "\x25", ahead: begun},
		{b: api.Block{ID: 38}, file: "\x26\x00\x00"},
		{b: api.Block{ID: 38, Times: []int{0, -1, 1}}, file: "\x26\x03\x00\x00\x00\xff\xff\x01\x00", ahead: back, behind: back},
		{b: api.Block{ID: 38, Times: make([]int, 258)}, file: "\x26\x02\x01" + zeros(516)},
		{b: api.Block{ID: 38, Times: make([]int, 65535)}, file: "\x26\xff\xff" + zeros(131070)},
		{b: api.Block{ID: 39}, file: "\x27"},
		{b: api.Block{ID: 40}, file: "\x28\x01\x00\x00"},
		{b: api.Block{ID: 40, Items: []api.Item{{N: -1, Text: []byte("ab")}, {N: 0}, {N: 1, Text: []byte("c")}}},
			file: "\x28\x0d\x00\x03\xff\xff\x02ab\x00\x00\x00\x01\x00\x01c", ahead: back, behind: back},
		{b: api.Block{ID: 40, Items: []api.Item{{Text: make([]byte, 255)}}}, file: "\x28\x03\x01\x01\x00\x00\xff" + zeros(255)},
		{b: api.Block{ID: 40, Items: make([]api.Item, 255)}, file: "\x28\xfe\x02\xff" + zeros(765)},
		{b: api.Block{ID: 42}, file: "\x2a\x00\x00\x00\x00"},
		{b: api.Block{ID: 43}, file: "\x2b\x01\x00\x00\x00\x00"},
		{b: api.Block{ID: 43, Used: 1}, file: "\x2b\x01\x00\x00\x00\x01"},
		{b: api.Block{ID: 48, Data: []byte("hi")}, file: "\x30\x02hi"},
		{b: api.Block{ID: 48, Data: make([]byte, 255)}, file: "\x30\xff" + zeros(255)},
		{b: api.Block{ID: 49, Count: 245, Data: []byte("hi")}, file: "\x31\xf5\x02hi"},
		{b: api.Block{ID: 49, Count: 2, Data: make([]byte, 245)}, file: "\x31\x02\xf5" + zeros(245)},
		{b: api.Block{ID: 50}, file: "\x32\x01\x00\x00"},
		{b: api.Block{ID: 50, Items: []api.Item{{N: 0, Text: []byte("abc")}, {N: 255}}}, file: "\x32\x08\x00\x02\x00\x03abc\xff\x00"},
		{b: api.Block{ID: 50, Items: make([]api.Item, 255)}, file: "\x32\xff\x01\xff" + zeros(510)},
		{b: api.Block{ID: 51, Times: []int{0, 1, 2, 255, 254, 253}}, file: "\x33\x02\x00\x01\x02\xff\xfe\xfd"},
		{b: api.Block{ID: 51}, file: "\x33\x00"},
		{b: api.Block{ID: 51, Times: make([]int, 765)}, file: "\x33\xff" + zeros(765)},
		{b: api.Block{ID: 52, Data: []byte("12345678")}, file: "\x3412345678"},
		{b: api.Block{ID: 53, Items: []api.Item{{Text: []byte("0123456789abcdef")}}, Data: []byte("hi")}, file: "\x350123456789abcdef\x02\x00\x00\x00hi"},
		{b: api.Block{ID: 53, Items: []api.Item{{Text: make([]byte, 16)}}, Data: make([]byte, 0x10203)}, file: "\x35" + zeros(16) + "\x03\x02\x01\x00" + zeros(0x10203)},
		{b: api.Block{ID: 90, Data: []byte("XTape!\x1a\x00\xff")}, file: "\x5aXTape!\x1a\x00\xff"},
	}
}

// isNamed is whether the document's table names an ID.
func isNamed(id int) bool {
	return slices.Contains([]int{16, 17, 18, 19, 20, 21, 24, 25, 32, 33, 34, 35, 36, 37, 38, 39, 40, 42, 43, 48, 49, 50, 51, 52, 53, 90}, id)
}

// unnamedBlocks are those of all other IDs.
func unnamedBlocks() []written {
	var l []written
	for id := range 256 {
		if !isNamed(id) {
			l = append(l,
				written{b: api.Block{ID: id}, file: one(id) + "\x00\x00\x00\x00"},
				written{b: api.Block{ID: id, Data: []byte("hello")}, file: one(id) + "\x05\x00\x00\x00hello"},
				written{b: api.Block{ID: id, Data: make([]byte, 258)}, file: one(id) + "\x02\x01\x00\x00" + zeros(258)})
		}
	}
	return append(l, written{b: api.Block{ID: 68, Data: make([]byte, 0x10203)}, file: "\x44\x03\x02\x01\x00" + zeros(0x10203)})
}

func allBlocks() []written {
	return slices.Concat(soundBlocks(), generalBlocks(), otherBlocks(), unnamedBlocks())
}

// checkWrite has a tape be written as a file, and be read of it as it was.
func checkWrite(t *testing.T, what string, x api.Tape, want string) {
	t.Helper()
	got, n, e := Write(x)
	if n != 0 || e != api.OK {
		t.Fatalf("%s: Write is %d bytes, %d, %d", what, len(got), n, e)
	}
	if string(got) != want {
		t.Fatalf("%s: Write is %d bytes %.300x, not %d %.300x", what, len(got), got, len(want), want)
	}
	checkRead(t, what, x, got)
}

// checkRead has what was written be read as it was.
func checkRead(t *testing.T, what string, x api.Tape, b []byte) {
	t.Helper()
	again, err := tzx.Parse(b)
	if err != nil {
		t.Fatalf("%s: what was written (%.300x) isn't read: %v", what, b, err)
	}
	if !Same(again, x) || !Same(x, again) || !sameText(again, x) {
		t.Fatalf("%s: what was written is read as\n%.500v, not\n%.500v", what, again, x)
	}
}

// checkRefused has a tape be refused.
func checkRefused(t *testing.T, what string, x api.Tape, want int, wantE api.Errno) {
	t.Helper()
	b, n, e := Write(x)
	if len(b) != 0 || n != want || e != wantE {
		t.Fatalf("%s: Write is %d bytes, %d, %d, not %d, %d", what, len(b), n, e, want, wantE)
	}
}

// 20.1: what is written

func TestExample(t *testing.T) {
	checkWrite(t, "no blocks", api.Tape{Major: 1, Minor: 20}, "ZXTape!\x1a\x01\x14")
	checkWrite(t, "no blocks", api.Tape{Major: 1, Minor: 20, Blocks: []api.Block{}}, "ZXTape!\x1a\x01\x14")
	checkWrite(t, "a pause", api.Tape{Major: 1, Minor: 20, Blocks: []api.Block{{ID: 32, Pause: 258}}}, head+"\x20\x02\x01")
}

func TestEachBlock(t *testing.T) {
	others := []written{{b: api.Block{ID: 48, Data: []byte("x")}, file: "\x30\x01x"}, back[0]}
	for _, w := range allBlocks() {
		if !May(w.b) {
			t.Fatalf("%.300v may not be", w.b)
		}
		x, file := tapeOf(w.whole())
		checkWrite(t, "alone", x, file)
		x, file = tapeOf(slices.Concat(others, w.whole(), others))
		checkWrite(t, "between others", x, file)
	}
}

func TestAllTogether(t *testing.T) {
	var l []written
	for _, w := range allBlocks() {
		l = append(l, w.whole()...)
	}
	x, file := tapeOf(l)
	checkWrite(t, "all together", x, file)
}

func TestVersions(t *testing.T) {
	for v := range 256 {
		checkWrite(t, "version", api.Tape{Major: v, Minor: 255 - v}, head[:8]+one(v)+one(255-v))
		checkWrite(t, "version with a block", api.Tape{Major: v, Minor: v / 2, Blocks: []api.Block{{ID: 39}}}, head[:8]+one(v)+one(v/2)+"\x27")
	}
}

// TestListsThatAreEmpty has lists that are nil or empty be one.
func TestListsThatAreEmpty(t *testing.T) {
	for _, w := range allBlocks() {
		b := w.b
		if b.Data == nil {
			b.Data = []byte{}
		}
		if b.Times == nil {
			b.Times = []int{}
		}
		if b.Items == nil {
			b.Items = []api.Item{}
		}
		if b.Pilots == nil {
			b.Pilots = []api.Sym{}
		}
		if b.Syms == nil {
			b.Syms = []api.Sym{}
		}
		if b.Reps == nil {
			b.Reps = []api.Rep{}
		}
		if !May(b) {
			t.Fatalf("%.300v with empty lists may not be", b)
		}
		l := w
		l.b = b
		x, file := tapeOf(l.whole())
		checkWrite(t, "empty lists", x, file)
	}
}

// TestSharesNothing has what is handed in stay as it is, and what is told stay
// as it is when that is changed later.
func TestSharesNothing(t *testing.T) {
	var l []written
	for _, w := range slices.Concat(soundBlocks(), generalBlocks(), otherBlocks()) {
		if len(w.file) < 700 {
			l = append(l, w.whole()...)
		}
	}
	x, file := tapeOf(l)
	kept := textOf(x)
	first, _, _ := Write(x)
	second, _, _ := Write(x)
	May(x.Blocks[0])
	Same(x, x)
	if textOf(x) != kept {
		t.Fatal("what was handed in is changed")
	}
	clear(first)
	_ = append(first, 1, 2, 3)
	if string(second) != file || textOf(x) != kept {
		t.Fatal("an answer shares memory")
	}
	for _, b := range x.Blocks {
		clear(b.Data)
		clear(b.Times)
		for _, item := range b.Items {
			clear(item.Text)
		}
		clear(b.Items)
		clear(b.Pilots)
		clear(b.Syms)
		clear(b.Reps)
	}
	if string(second) != file {
		t.Fatal("an answer shares memory with what was handed in")
	}
	// A block that is nothing but bytes, alone.
	data := []byte("12345678")
	b, _, _ := Write(api.Tape{Blocks: []api.Block{{ID: 52, Data: data}}})
	clear(b)
	if string(data) != "12345678" {
		t.Fatal("an answer shares memory with Data")
	}
}

// 20.2: what is read is written as it was

// checkAgain has a file be read, and be written as it was.
func checkAgain(t *testing.T, what string, b []byte) {
	t.Helper()
	x, err := tzx.Parse(b)
	if err != nil {
		t.Fatalf("%s: %.300x isn't read: %v", what, b, err)
	}
	for i, block := range x.Blocks {
		if !May(block) {
			t.Fatalf("%s: block %d that was read, %.300v, may not be", what, i, block)
		}
	}
	again, n, e := Write(x)
	if n != 0 || e != api.OK || !bytes.Equal(again, b) {
		t.Fatalf("%s: %.300x that was read is written as %.300x, %d, %d", what, b, again, n, e)
	}
}

func TestReadIsWritten(t *testing.T) {
	var l []written
	for _, w := range allBlocks() {
		_, file := tapeOf(w.whole())
		checkAgain(t, "alone", []byte(file))
		l = append(l, w.whole()...)
	}
	_, file := tapeOf(l)
	checkAgain(t, "all together", []byte(file))
	for v := range 256 {
		checkAgain(t, "version", []byte(head[:8]+one(v)+one(v*7)))
	}
	// Bits behind the last symbol of Data stay as they are.
	for last := range 256 {
		checkAgain(t, "bits behind", []byte(head+"\x19\x11\x00\x00\x00"+zeros(8)+"\x01\x00\x00\x00\x00\x02\x07\x08"+one(last)+"\x27"))
	}
	// As many bytes, and as many blocks, as there may be.
	rest := 1048576 - len(head) - 5
	checkAgain(t, "a full file", []byte(head+"\x00"+one(rest&255)+one(rest>>8&255)+one(rest>>16)+"\x00"+zeros(rest)))
	checkAgain(t, "many blocks", []byte(head+strings.Repeat("\x27", 4096)))
	const reps = 349500
	long := 14 + 1 + 3*reps
	checkAgain(t, "many reps", []byte(head+"\x19"+one(long&255)+one(long>>8&255)+one(long>>16)+"\x00\x00\x00"+one(reps&255)+one(reps>>8&255)+one(reps>>16)+"\x00"+
		"\x00\x01\x00\x00\x00\x00\x00\x00\x07"+strings.Repeat("\x00\x01\x02", reps)))
}
