package tap

import (
	"bytes"
	"reflect"
	"slices"
	"testing"

	"squeal/api"
	"squeal/wire"
)

// chance is a row of numbers by a short rule.
type chance uint64

func (c *chance) below(n int) int {
	*c = *c*6364136223846793005 + 1442695040888963407
	return int(uint64(*c) >> 33 % uint64(n))
}

// rule is n bytes by a short rule that begins with seed.
func rule(seed, n int) []byte {
	l := make([]byte, n)
	c := chance(seed)
	for i := range l {
		l[i] = byte(c.below(256))
	}
	return l
}

// same is whether two lists have the same blocks; empty ones and nil are one.
func same(a, b [][]byte) bool {
	return slices.EqualFunc(a, b, bytes.Equal)
}

// copied is a list of blocks that shares nothing with l.
func copied(l [][]byte) [][]byte {
	var out [][]byte
	for _, b := range l {
		out = append(out, slices.Clone(b))
	}
	return out
}

// file is blocks as a file, put together by hand.
func file(l ...[]byte) []byte {
	var out []byte
	for _, b := range l {
		out = append(out, byte(len(b)%256), byte(len(b)/256))
		out = append(out, b...)
	}
	return out
}

// lots is n blocks, with lengths from 0 to 6.
func lots(n int) [][]byte {
	var l [][]byte
	for i := range n {
		l = append(l, rule(i, i%7))
	}
	return l
}

// full is blocks that are exactly 1,048,576 bytes as a file.
func full() [][]byte {
	var l [][]byte
	for i := range 16 {
		l = append(l, rule(i, 65534))
	}
	return l
}

// someLengths are all short lengths, and those around each power of two.
func someLengths() []int {
	var l []int
	for n := range 300 {
		l = append(l, n)
	}
	for bit := 9; bit <= 16; bit++ {
		l = append(l, 1<<bit-2, 1<<bit-1)
		if bit < 16 {
			l = append(l, 1<<bit, 1<<bit+1, 1<<bit+255)
		}
	}
	return l
}

func checkRead(t *testing.T, what string, b []byte, want ...[]byte) {
	t.Helper()
	kept := slices.Clone(b)
	got, err := Parse(b)
	if err != nil {
		t.Fatalf("%s: Parse of %d bytes is a fault: %v", what, len(b), err)
	}
	if !same(got, want) {
		t.Fatalf("%s: Parse of %d bytes is %d blocks, not the %d that are wanted", what, len(b), len(got), len(want))
	}
	if !bytes.Equal(b, kept) {
		t.Fatalf("%s: what was handed in is changed", what)
	}
}

func checkFault(t *testing.T, what string, b []byte, want api.Errno, wantAt int) {
	t.Helper()
	kept := slices.Clone(b)
	got, err := Parse(b)
	f, ok := err.(*wire.Fault)
	if !ok || f == nil {
		t.Fatalf("%s: Parse of %d bytes tells %v, which is no fault", what, len(b), err)
	}
	if *f != (wire.Fault{E: want, At: wantAt}) {
		t.Fatalf("%s: Parse of %d bytes is a fault %d at %d, not %d at %d", what, len(b), f.E, f.At, want, wantAt)
	}
	if len(got) != 0 {
		t.Fatalf("%s: beside a fault there are %d blocks", what, len(got))
	}
	if !bytes.Equal(b, kept) {
		t.Fatalf("%s: what was handed in is changed", what)
	}
}

// 18.1: Parse

func TestParseWrittenOut(t *testing.T) {
	for _, x := range []struct {
		b    string
		want [][]byte
	}{
		{"", nil},
		{"\x02\x00\x05\x05", [][]byte{{5, 5}}},
		{"\x00\x00", [][]byte{{}}},
		{"\x00\x00\x00\x00\x00\x00", [][]byte{{}, {}, {}}},
		{"\x01\x00\x07", [][]byte{{7}}},
		{"\x03\x00\xff\x12\xed\x02\x00\x00\x00", [][]byte{{255, 18, 237}, {0, 0}}},
		{"\x00\x00\x01\x00\x09\x00\x00\x02\x00\x01\x02", [][]byte{{}, {9}, {}, {1, 2}}},
		{"\x04\x00\x02\x00\x05\x05", [][]byte{{2, 0, 5, 5}}},
	} {
		checkRead(t, "written out", []byte(x.b), x.want...)
	}
	if l, _ := Parse([]byte{2, 0, 5, 5}); !Right(l[0]) {
		t.Error("the document's example isn't right")
	}
}

func TestParseWrong(t *testing.T) {
	for _, x := range []struct {
		b  string
		at int
	}{
		{"\x00", 0},
		{"\x05", 0},
		{"\x01\x00", 2},
		{"\x00\x01", 2},
		{"\xff\xff", 2},
		{"\x02\x00\x05", 2},
		{"\x00\x80\x05\x06\x07", 2},
		{"\x02\x00\x05\x05\x00", 4},
		{"\x02\x00\x05\x05\x02", 4},
		{"\x02\x00\x05\x05\x01\x00", 6},
		{"\x02\x00\x05\x05\x03\x00\x01\x02", 6},
		{"\x00\x00\x00", 2},
		{"\x00\x00\x01\x00", 4},
		{"\x00\x02\x02\x00\x05\x05", 2},
	} {
		checkFault(t, "cut", []byte(x.b), api.ErrEnd, x.at)
	}
}

func TestParseEachLength(t *testing.T) {
	for _, n := range someLengths() {
		b := rule(n, n)
		checkRead(t, "one block", file(b), b)
		checkRead(t, "one block of two", file(b, []byte{1, 2}), b, []byte{1, 2})
		if n > 0 {
			checkFault(t, "a byte too few", file(b)[:n+1], api.ErrEnd, 2)
			checkFault(t, "no byte", file(b)[:2], api.ErrEnd, 2)
		}
		checkFault(t, "a byte too many", append(file(b), 0), api.ErrEnd, n+2)
	}
}

// TestParseCut cuts a file at each of its places.
func TestParseCut(t *testing.T) {
	l := [][]byte{rule(1, 19), {}, {3}, rule(2, 300), {}, {}, rule(3, 2)}
	whole := file(l...)
	begin := 0
	for i, b := range l {
		checkRead(t, "whole blocks", whole[:begin], l[:i]...)
		checkFault(t, "part of a length", whole[:begin+1], api.ErrEnd, begin)
		for n := range b {
			checkFault(t, "part of a block", whole[:begin+2+n], api.ErrEnd, begin+2)
		}
		begin += 2 + len(b)
	}
	checkRead(t, "the whole file", whole, l...)
}

func TestParseManyBlocks(t *testing.T) {
	for _, n := range []int{4094, 4095, 4096} {
		l := lots(n)
		checkRead(t, "many blocks", file(l...), l...)
		checkRead(t, "many empty blocks", make([]byte, 2*n), make([][]byte, n)...)
	}
	most := file(lots(4096)...)
	for _, behind := range []string{
		"\x00", "\x01", "\xff", "\x00\x00", "\x01\x00", "\x01\x00\x07", "\xff\xff", "\xff\xff\x07", "\x00\x00\x00",
		"\x00\x00\x01", "\x01\x00\x07\x01\x00\x07", "\x00\x00\x05\x00",
	} {
		checkFault(t, "a block too many", slices.Concat(most, []byte(behind)), api.ErrLong, len(most))
		checkFault(t, "an empty block too many", slices.Concat(make([]byte, 8192), []byte(behind)), api.ErrLong, 8192)
	}
	checkFault(t, "far too many", make([]byte, 20000), api.ErrLong, 8192)
	checkFault(t, "as many as there may be bytes", make([]byte, 1048576), api.ErrLong, 8192)
}

// TestParseLastOfMany has the last block that may be cut short: that is told,
// since there is no further one.
func TestParseLastOfMany(t *testing.T) {
	ahead := file(lots(4095)...)
	for _, x := range []struct {
		behind string
		at     int
	}{
		{"\x00", 0}, {"\x07", 0}, {"\x01\x00", 2}, {"\x03\x00\x00\x00", 2}, {"\x00\xff\x00\x00\x00\x00\x00\x00", 2},
	} {
		checkFault(t, "the last one", slices.Concat(ahead, []byte(x.behind)), api.ErrEnd, len(ahead)+x.at)
	}
}

func TestParseLongFiles(t *testing.T) {
	whole := file(full()...)
	if len(whole) != 1048576 {
		t.Fatalf("a full file has %d bytes", len(whole))
	}
	checkRead(t, "a full file", whole, full()...)
	checkFault(t, "one byte is cut", whole[:1048575], api.ErrEnd, 15*65536+2)
	for _, behind := range []string{"\x00", "\x01", "\x00\x00", "\x01\x00", "\x01\x00\x07"} {
		checkFault(t, "too long", slices.Concat(whole, []byte(behind)), api.ErrLong, 0)
	}
	// What is too long as a whole is told ahead of all that is wrong in it.
	checkFault(t, "too long, of too many blocks", make([]byte, 1048577), api.ErrLong, 0)
	checkFault(t, "too long, cut", bytes.Repeat([]byte{255}, 1048577), api.ErrLong, 0)
	checkFault(t, "far too long", make([]byte, 5000000), api.ErrLong, 0)
	checkFault(t, "not too long, cut", append(file(full()[:15]...), bytes.Repeat([]byte{255}, 65536)...), api.ErrEnd, 15*65536+2)
}

// told is what a second reader tells of b, which looks for the end of each
// block by its length alone.
func told(b []byte) (l [][]byte, e api.Errno, at int) {
	if len(b) > 1048576 {
		return nil, api.ErrLong, 0
	}
	for at < len(b) {
		if len(l) == 4096 {
			return nil, api.ErrLong, at
		}
		if at+1 == len(b) {
			return nil, api.ErrEnd, at
		}
		to := at + 2 + int(b[at]) + 256*int(b[at+1])
		if to > len(b) {
			return nil, api.ErrEnd, at + 2
		}
		l = append(l, b[at+2:to])
		at = to
	}
	return l, api.OK, 0
}

// mostlyBlocks are bytes of which many are lengths that fit.
func mostlyBlocks(c *chance) []byte {
	var b []byte
	for range c.below(12) {
		b = append(b, file(rule(c.below(1000), c.below(1+c.below(600))))...)
	}
	switch c.below(4) {
	case 0:
		b = append(b, byte(c.below(5)))
	case 1:
		b = b[:c.below(len(b)+1)]
	case 2:
		if len(b) > 0 {
			b[c.below(len(b))] ^= 1 << c.below(8)
		}
	}
	return b
}

func TestParseByChance(t *testing.T) {
	c := chance(18)
	read, faults := 0, 0
	for range 20000 {
		b := mostlyBlocks(&c)
		l, e, at := told(b)
		if e == api.OK {
			checkRead(t, "by chance", b, l...)
			read++
		} else {
			checkFault(t, "by chance", b, e, at)
			faults++
		}
	}
	if read < 1000 || faults < 1000 {
		t.Errorf("only %d files are read, and %d are none", read, faults)
	}
}

// TestFaultsAreNew has each fault be one of its own, since who has one may
// change it.
func TestFaultsAreNew(t *testing.T) {
	for _, b := range [][]byte{{1}, {1, 0}, make([]byte, 8193), make([]byte, 1048577)} {
		_, first := Parse(b)
		kept := *wire.Only(first)
		*wire.Only(first) = wire.Fault{E: api.ErrNone, At: 77}
		if _, err := Parse(b); *wire.Only(err) != kept {
			t.Errorf("a fault is changed from %v to %v", kept, err)
		}
	}
}

func TestParseSharesNothing(t *testing.T) {
	want := [][]byte{{1, 2}, {}, {3}, rule(9, 70), {}, {4, 5, 6}}
	b := file(want...)
	one, _ := Parse(b)
	two, _ := Parse(b)
	for i := range b {
		b[i] ^= 255
	}
	if !same(one, want) || !same(two, want) {
		t.Fatal("blocks share memory with the file")
	}
	for i := range one {
		kept := copied(one)
		for j := range one[i] {
			one[i][j] ^= 255
		}
		// What is put behind a block may not run over the next one either.
		_ = append(one[i], 201, 202, 203, 204)
		kept[i] = one[i]
		if !same(one, kept) {
			t.Fatalf("block %d shares memory with another", i)
		}
	}
	if !same(two, want) {
		t.Fatal("two answers share memory")
	}
}

// 18.1: Write and Tape

// tapeOf is the tape of blocks, put together by hand.
func tapeOf(l [][]byte) api.Tape {
	t := api.Tape{Major: 1, Minor: 20}
	for _, b := range l {
		t.Blocks = append(t.Blocks, api.Block{ID: 16, Pause: 1000, Data: b})
	}
	return t
}

// sameTape is whether two tapes are the same; empty lists and nil are one.
func sameTape(a, b api.Tape) bool {
	if a.Major != b.Major || a.Minor != b.Minor {
		return false
	}
	return slices.EqualFunc(a.Blocks, b.Blocks, func(x, y api.Block) bool {
		equal := bytes.Equal(x.Data, y.Data)
		x.Data, y.Data = nil, nil
		return equal && reflect.DeepEqual(x, y)
	})
}

func checkWritten(t *testing.T, what string, l [][]byte, want []byte) {
	t.Helper()
	kept := copied(l)
	b, e := Write(l)
	if e != api.OK || !bytes.Equal(b, want) {
		t.Fatalf("%s: Write of %d blocks is %d bytes, %d, not %d bytes", what, len(l), len(b), e, len(want))
	}
	tape, e := Tape(l)
	if e != api.OK || !sameTape(tape, tapeOf(l)) {
		t.Fatalf("%s: Tape of %d blocks is another one: %d, %d.%d, %d blocks", what, len(l), e, tape.Major, tape.Minor, len(tape.Blocks))
	}
	if !same(l, kept) {
		t.Fatalf("%s: what was handed in is changed", what)
	}
}

func checkTooLong(t *testing.T, what string, l [][]byte) {
	t.Helper()
	if b, e := Write(l); len(b) != 0 || e != api.ErrLong {
		t.Errorf("%s: Write of %d blocks is %d bytes, %d", what, len(l), len(b), e)
	}
	if tape, e := Tape(l); tape.Major != 0 || tape.Minor != 0 || len(tape.Blocks) != 0 || e != api.ErrLong {
		t.Errorf("%s: Tape of %d blocks is %d.%d, %d blocks, %d", what, len(l), tape.Major, tape.Minor, len(tape.Blocks), e)
	}
}

func TestWriteWrittenOut(t *testing.T) {
	for _, x := range []struct {
		l    [][]byte
		want string
	}{
		{nil, ""},
		{[][]byte{}, ""},
		{[][]byte{{5, 5}}, "\x02\x00\x05\x05"},
		{[][]byte{nil}, "\x00\x00"},
		{[][]byte{{}}, "\x00\x00"},
		{[][]byte{{}, nil, {}}, "\x00\x00\x00\x00\x00\x00"},
		{[][]byte{{1}, {}, {2, 3, 4}}, "\x01\x00\x01\x00\x00\x03\x00\x02\x03\x04"},
		{[][]byte{{0, 0}, {255}}, "\x02\x00\x00\x00\x01\x00\xff"},
		{[][]byte{make([]byte, 255)}, "\xff\x00" + string(make([]byte, 255))},
		{[][]byte{make([]byte, 256)}, "\x00\x01" + string(make([]byte, 256))},
		{[][]byte{make([]byte, 0x1234), {9}}, "\x34\x12" + string(make([]byte, 0x1234)) + "\x01\x00\x09"},
		{[][]byte{make([]byte, 65535)}, "\xff\xff" + string(make([]byte, 65535))},
	} {
		checkWritten(t, "written out", x.l, []byte(x.want))
	}
}

func TestTapeWrittenOut(t *testing.T) {
	want := api.Tape{Major: 1, Minor: 20, Blocks: []api.Block{
		{ID: 16, Pause: 1000, Data: []byte{5, 5}},
		{ID: 16, Pause: 1000, Data: []byte{0, 1, 2, 3}},
	}}
	if got, e := Tape([][]byte{{5, 5}, {0, 1, 2, 3}}); e != api.OK || !reflect.DeepEqual(got, want) {
		t.Errorf("the tape is %v, %d, not %v", got, e, want)
	}
	for _, l := range [][][]byte{nil, {}} {
		if got, e := Tape(l); e != api.OK || got.Major != 1 || got.Minor != 20 || len(got.Blocks) != 0 {
			t.Errorf("the tape of no blocks is %v, %d", got, e)
		}
	}
}

func TestWriteEachLength(t *testing.T) {
	for _, n := range someLengths() {
		b := rule(n, n)
		checkWritten(t, "one block", [][]byte{b}, file(b))
		checkWritten(t, "between others", [][]byte{{1}, b, {2, 3}}, file([]byte{1}, b, []byte{2, 3}))
	}
}

func TestWriteLongBlocks(t *testing.T) {
	for _, n := range []int{65536, 65537, 65538, 100000, 131071, 131072, 1048573, 1048574, 1048575, 1048576, 2000000} {
		checkTooLong(t, "one block", [][]byte{make([]byte, n)})
		checkTooLong(t, "the first of two", [][]byte{make([]byte, n), {1}})
		checkTooLong(t, "the last of three", [][]byte{{}, {1}, make([]byte, n)})
	}
}

func TestWriteManyBlocks(t *testing.T) {
	for _, n := range []int{4095, 4096} {
		l := lots(n)
		checkWritten(t, "many blocks", l, file(l...))
		checkWritten(t, "many empty blocks", make([][]byte, n), make([]byte, 2*n))
	}
	for _, n := range []int{4097, 4098, 8192, 65536} {
		checkTooLong(t, "too many blocks", lots(n))
		checkTooLong(t, "too many empty blocks", make([][]byte, n))
	}
}

func TestWriteLongFiles(t *testing.T) {
	l := full()
	checkWritten(t, "a full file", l, file(l...))
	checkTooLong(t, "an empty block more", append(l[:16:16], nil))
	checkTooLong(t, "a byte more", append(l[:15:15], make([]byte, 65535)))
	checkWritten(t, "a byte fewer", append(l[:15:15], l[15][1:]), file(append(l[:15:15], l[15][1:])...))
	checkWritten(t, "two bytes fewer, an empty block more", append(l[:15:15], l[15][2:], nil), file(append(l[:15:15], l[15][2:], nil)...))
	// Each block and their number may be, and so may all bytes but for the lengths.
	checkTooLong(t, "the lengths are too many", slices.Repeat([][]byte{make([]byte, 255)}, 4096))
	checkWritten(t, "as many as may be, and as long", slices.Repeat([][]byte{make([]byte, 254)}, 4096), slices.Repeat(append([]byte{254, 0}, make([]byte, 254)...), 4096))
	checkTooLong(t, "all that is longest", slices.Repeat([][]byte{make([]byte, 65535)}, 4096))
	checkTooLong(t, "seventeen of the longest", slices.Repeat([][]byte{make([]byte, 65535)}, 17))
	checkTooLong(t, "sixteen of the longest", slices.Repeat([][]byte{make([]byte, 65535)}, 16))
	checkWritten(t, "fifteen of the longest", slices.Repeat([][]byte{make([]byte, 65535)}, 15), slices.Repeat(append([]byte{255, 255}, make([]byte, 65535)...), 15))
}

func TestWriteSharesNothing(t *testing.T) {
	l := [][]byte{{1, 2}, rule(5, 70), {}}
	want := file(l...)
	one, _ := Write(l)
	two, _ := Write(l)
	for i := range l[1] {
		l[1][i] ^= 255
	}
	if !bytes.Equal(one, want) {
		t.Error("a file shares memory with its blocks")
	}
	for i := range one {
		one[i] ^= 255
	}
	if !bytes.Equal(two, want) {
		t.Error("two files share memory")
	}
}

func TestTapeSharesNothing(t *testing.T) {
	shared := rule(5, 70)
	l := [][]byte{{1, 2}, shared, {}, shared, {7}}
	want := tapeOf(copied(l))
	one, _ := Tape(l)
	two, _ := Tape(l)
	for i := range shared {
		shared[i] ^= 255
	}
	if !sameTape(one, want) || !sameTape(two, want) {
		t.Error("a tape shares memory with its blocks")
	}
	for i := range one.Blocks[1].Data {
		one.Blocks[1].Data[i] ^= 255
	}
	if !bytes.Equal(one.Blocks[3].Data, want.Blocks[3].Data) {
		t.Error("two blocks of a tape share memory")
	}
	if !sameTape(two, want) {
		t.Error("two tapes share memory")
	}
	one.Blocks[0] = api.Block{}
	if !sameTape(two, want) {
		t.Error("two tapes share their list")
	}
}

// 18.2

// sumByBits is a sum by how often each bit is set.
func sumByBits(b []byte) uint8 {
	sum := 0
	for bit := range 8 {
		n := 0
		for _, x := range b {
			n += int(x) >> bit % 2
		}
		sum += n % 2 << bit
	}
	return uint8(sum)
}

func TestSumWrittenOut(t *testing.T) {
	for _, x := range []struct {
		b     []byte
		sum   uint8
		right bool
	}{
		{nil, 0, false},
		{[]byte{}, 0, false},
		{[]byte{0}, 0, true},
		{[]byte{1}, 1, false},
		{[]byte{255}, 255, false},
		{[]byte{5, 5}, 0, true},
		{[]byte{0, 0}, 0, true},
		{[]byte{5, 4}, 1, false},
		{[]byte{128, 128, 128}, 128, false},
		{[]byte{1, 2, 3}, 0, true},
		{[]byte{1, 2, 4, 8, 16, 32, 64, 128}, 255, false},
		{[]byte{1, 2, 4, 8, 16, 32, 64, 128, 255}, 0, true},
		{[]byte{255, 255, 255, 255}, 0, true},
	} {
		if got := Sum(x.b); got != x.sum {
			t.Errorf("Sum(%v) is %d, not %d", x.b, got, x.sum)
		}
		if got := Right(x.b); got != x.right {
			t.Errorf("Right(%v) is %v", x.b, got)
		}
	}
}

func TestSumsOfPairs(t *testing.T) {
	for one := range 256 {
		if got := Sum([]byte{byte(one)}); int(got) != one {
			t.Errorf("Sum of %d alone is %d", one, got)
		}
		for other := range 256 {
			b := []byte{byte(one), byte(other)}
			if got := Sum(b); got != sumByBits(b) {
				t.Fatalf("Sum(%v) is %d, not %d", b, got, sumByBits(b))
			}
			if Right(b) != (one == other) {
				t.Fatalf("Right(%v) is %v", b, !(one == other))
			}
		}
	}
}

func TestSumsOfMany(t *testing.T) {
	for _, n := range someLengths() {
		b := rule(n+3, n)
		kept := slices.Clone(b)
		if got := Sum(b); got != sumByBits(b) {
			t.Fatalf("Sum of %d bytes is %d, not %d", n, got, sumByBits(b))
		}
		if got := Right(b); got != (n > 0 && sumByBits(b) == 0) {
			t.Fatalf("Right of %d bytes is %v", n, got)
		}
		if !bytes.Equal(b, kept) {
			t.Fatal("what was handed in is changed")
		}
	}
}

func TestSealedWrittenOut(t *testing.T) {
	for _, x := range []struct {
		flag uint8
		b    []byte
		want []byte
	}{
		{0, nil, []byte{0, 0}},
		{0, []byte{}, []byte{0, 0}},
		{255, nil, []byte{255, 255}},
		{5, nil, []byte{5, 5}},
		{0, []byte{0}, []byte{0, 0, 0}},
		{0, []byte{7}, []byte{0, 7, 7}},
		{255, []byte{7}, []byte{255, 7, 248}},
		{255, []byte{255}, []byte{255, 255, 0}},
		{0, []byte{3, 't', 'a', 'p'}, []byte{0, 3, 't', 'a', 'p', 3 ^ 't' ^ 'a' ^ 'p'}},
		{128, []byte{1, 2, 3, 4}, []byte{128, 1, 2, 3, 4, 132}},
	} {
		if got := Sealed(x.flag, x.b); !bytes.Equal(got, x.want) {
			t.Errorf("Sealed(%d, %v) is %v, not %v", x.flag, x.b, got, x.want)
		}
	}
}

func TestSealedEachFlag(t *testing.T) {
	for flag := range 256 {
		for n := range 20 {
			checkSealed(t, uint8(flag), rule(flag+n, n))
		}
	}
	for _, n := range append(someLengths(), 65536, 70000, 1<<20+1) {
		checkSealed(t, uint8(n), rule(n, n))
	}
}

// checkSealed has what is sealed be the flag, the bytes, and what makes their
// sum none.
func checkSealed(t *testing.T, flag uint8, b []byte) {
	t.Helper()
	kept := slices.Clone(b)
	got := Sealed(flag, b)
	if len(got) != len(b)+2 || got[0] != flag || !bytes.Equal(got[1:len(b)+1], b) {
		t.Fatalf("Sealed(%d, ..) of %d bytes is %d others", flag, len(b), len(got))
	}
	if sum := sumByBits(got[:len(b)+1]); got[len(b)+1] != sum {
		t.Fatalf("Sealed(%d, ..) of %d bytes ends with %d, not %d", flag, len(b), got[len(b)+1], sum)
	}
	if !Right(got) {
		t.Fatalf("Sealed(%d, ..) of %d bytes isn't right", flag, len(b))
	}
	if !bytes.Equal(b, kept) {
		t.Fatal("what was handed in is changed")
	}
}

func TestSealedSharesNothing(t *testing.T) {
	// There is room behind b, which is none of Sealed's.
	room := []byte{1, 2, 3, 9, 9, 9, 9}
	b := room[:3]
	one := Sealed(5, b)
	two := Sealed(5, b)
	if !bytes.Equal(room, []byte{1, 2, 3, 9, 9, 9, 9}) {
		t.Fatal("what is behind the argument is changed")
	}
	b[0] = 77
	want := []byte{5, 1, 2, 3, 5}
	if !bytes.Equal(one, want) || !bytes.Equal(two, want) {
		t.Error("a sealed block shares memory with its bytes")
	}
	one[1], one[4] = 88, 88
	if !bytes.Equal(two, want) {
		t.Error("two sealed blocks share memory")
	}
}

// 18.3

// someBlocks are blocks by chance, now and then sealed ones.
func someBlocks(c *chance) [][]byte {
	var l [][]byte
	for range c.below(20) {
		b := rule(c.below(1000), c.below(1+c.below(900)))
		if c.below(2) == 0 {
			b = Sealed(uint8(c.below(256)), b)
		}
		l = append(l, b)
	}
	return l
}

func checkBothWays(t *testing.T, l [][]byte) {
	t.Helper()
	b, e := Write(l)
	if e != api.OK {
		t.Fatalf("Write of %d blocks is %d", len(l), e)
	}
	read, err := Parse(b)
	if err != nil || !same(read, l) {
		t.Fatalf("what was written of %d blocks is read as %d, %v", len(l), len(read), err)
	}
	again, e := Write(read)
	if e != api.OK || !bytes.Equal(again, b) {
		t.Fatalf("what was read of %d bytes is written as %d, %d", len(b), len(again), e)
	}
}

func TestWrittenIsRead(t *testing.T) {
	c := chance(3)
	for range 2000 {
		checkBothWays(t, someBlocks(&c))
	}
	for _, l := range [][][]byte{nil, {nil}, {{}, {}}, full(), lots(4096), make([][]byte, 4096), {make([]byte, 65535)}} {
		checkBothWays(t, l)
	}
}

// TestReadIsWritten goes the other way, from bytes of which not all are files.
func TestReadIsWritten(t *testing.T) {
	c := chance(4)
	read := 0
	for range 20000 {
		b := mostlyBlocks(&c)
		l, err := Parse(b)
		if err != nil {
			continue
		}
		read++
		if got, e := Write(l); e != api.OK || !bytes.Equal(got, b) {
			t.Fatalf("what was read of %d bytes is written as %d, %d", len(b), len(got), e)
		}
		if tape, e := Tape(l); e != api.OK || !sameTape(tape, tapeOf(l)) {
			t.Fatalf("the tape of %d blocks is another one, %d", len(l), e)
		}
	}
	if read < 1000 {
		t.Errorf("only %d files are read", read)
	}
}

func TestSealedIsRight(t *testing.T) {
	c := chance(5)
	for range 300 {
		b := Sealed(uint8(c.below(256)), rule(c.below(1000), c.below(120)))
		if !Right(b) {
			t.Fatalf("%v is sealed, and isn't right", b)
		}
		for bit := range 8 * len(b) {
			b[bit/8] ^= 1 << (bit % 8)
			if Right(b) {
				t.Fatalf("%v is right, though bit %d is another one", b, bit)
			}
			b[bit/8] ^= 1 << (bit % 8)
		}
	}
}

func TestSealedIsWrittenAndRead(t *testing.T) {
	l := [][]byte{Sealed(0, rule(1, 17)), Sealed(255, rule(2, 6912)), Sealed(7, rule(3, 65533))}
	b, _ := Write(l)
	read, err := Parse(b)
	if err != nil || len(read) != 3 || !Right(read[0]) || !Right(read[1]) || !Right(read[2]) {
		t.Errorf("what was sealed is read as %d blocks, %v", len(read), err)
	}
	checkTooLong(t, "sealed, and too long for a file", [][]byte{Sealed(255, make([]byte, 65534))})
}
