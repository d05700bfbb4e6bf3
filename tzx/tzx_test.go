package tzx

import (
	"fmt"
	"reflect"
	"slices"
	"strings"
	"testing"

	"squeal/api"
	"squeal/wire"
)

// head is the beginning of a file of version 1.20.
const head = "ZXTape!\x1a\x01\x14"

// zeros is n bytes of 0.
func zeros(n int) string {
	return strings.Repeat("\x00", n)
}

// chance is a row of numbers by a short rule.
type chance uint64

func (c *chance) below(n int) int {
	*c = *c*6364136223846793005 + 1442695040888963407
	return int(uint64(*c) >> 33 % uint64(n))
}

// bytes is n bytes by chance.
func (c *chance) bytes(n int) []byte {
	l := make([]byte, n)
	for i := range l {
		l[i] = byte(c.below(256))
	}
	return l
}

// sameTape is whether two tapes are the same; empty lists and nil are one, and
// so they are as text.
func sameTape(a, b api.Tape) bool {
	return reflect.DeepEqual(a, b) || fmt.Sprintf("%#x", a) == fmt.Sprintf("%#x", b)
}

func checkTape(t *testing.T, what string, b []byte, want api.Tape) {
	t.Helper()
	kept := slices.Clone(b)
	got, err := Parse(b)
	if err != nil {
		t.Fatalf("%s: Parse of %d bytes is a fault: %v", what, len(b), err)
	}
	if !sameTape(got, want) {
		t.Fatalf("%s: Parse of %d bytes (%.80q) is\n%.500v, not\n%.500v", what, len(b), b, got, want)
	}
	if !slices.Equal(b, kept) {
		t.Fatalf("%s: what was handed in is changed", what)
	}
}

// checkBlocks has a file of version 1.20 have such blocks.
func checkBlocks(t *testing.T, what, behind string, want ...api.Block) {
	t.Helper()
	checkTape(t, what, []byte(head+behind), api.Tape{Major: 1, Minor: 20, Blocks: want})
}

func checkFault(t *testing.T, what string, b []byte, want api.Errno, wantAt int) {
	t.Helper()
	kept := slices.Clone(b)
	got, err := Parse(b)
	f, ok := err.(*wire.Fault)
	if !ok || f == nil {
		t.Fatalf("%s: Parse of %d bytes (%.80q) tells %v, which is no fault", what, len(b), b, err)
	}
	if *f != (wire.Fault{E: want, At: wantAt}) {
		t.Fatalf("%s: Parse of %d bytes (%.80q) is a fault %d at %d, not %d at %d", what, len(b), b, f.E, f.At, want, wantAt)
	}
	if got.Major != 0 || got.Minor != 0 || len(got.Blocks) != 0 {
		t.Fatalf("%s: beside a fault there is a tape %.500v", what, got)
	}
	if !slices.Equal(b, kept) {
		t.Fatalf("%s: what was handed in is changed", what)
	}
}

// checkWrong has blocks behind a head have a fault, so many bytes behind it.
func checkWrong(t *testing.T, what, behind string, want api.Errno, wantAt int) {
	t.Helper()
	checkFault(t, what, []byte(head+behind), want, len(head)+wantAt)
}

// written is a block as it stands in a file, part by part, and what is read of
// it.
type written struct {
	ahead  string // blocks that it needs ahead
	parts  []string
	behind string // and behind
	want   api.Block
}

func (w written) whole() string {
	return strings.Join(w.parts, "")
}

// soundBlocks are those with pulses.
func soundBlocks() []written {
	return []written{
		{parts: []string{"\x10", "\xe8\x03", "\x03\x00", "\x01\x02\x03"},
			want: api.Block{ID: 16, Pause: 1000, Data: []byte{1, 2, 3}}},
		{parts: []string{"\x10", "\xff\xff", "\x00\x00"},
			want: api.Block{ID: 16, Pause: 65535}},
		{parts: []string{"\x10", "\x01\x80", "\x02\x01", zeros(258)},
			want: api.Block{ID: 16, Pause: 0x8001, Data: make([]byte, 258)}},
		{parts: []string{"\x11", "\x78\x08", "\x9b\x02", "\xdf\x02", "\x57\x03", "\xae\x06", "\x97\x0c", "\x07", "\xff\xff", "\x02\x00\x00", "ab"},
			want: api.Block{ID: 17, Pilot: 2168, Sync1: 667, Sync2: 735, Zero: 855, One: 1710, Count: 3223, Used: 7, Pause: 65535, Data: []byte("ab")}},
		{parts: []string{"\x11", "\xff\xff", "\xfe\xff", "\xfd\xff", "\xfc\xff", "\xfb\xff", "\xfa\xff", "\xff", "\xf9\xff", "\x01\x00\x01", zeros(65537)},
			want: api.Block{ID: 17, Pilot: 65535, Sync1: 65534, Sync2: 65533, Zero: 65532, One: 65531, Count: 65530, Used: 255, Pause: 65529, Data: make([]byte, 65537)}},
		{parts: []string{"\x12", "\x34\x12", "\x78\xf6"},
			want: api.Block{ID: 18, Tone: 0x1234, Count: 0xf678}},
		{parts: []string{"\x13", "\x03", "\x03\x00\x00\x00\x02\xff"},
			want: api.Block{ID: 19, Times: []int{3, 0, 0xff02}}},
		{parts: []string{"\x13", "\x00"},
			want: api.Block{ID: 19}},
		{parts: []string{"\x13", "\xff", zeros(508) + "\xff\xff"},
			want: api.Block{ID: 19, Times: append(make([]int, 254), 65535)}},
		{parts: []string{"\x14", "\x01\x02", "\x03\xf4", "\xf5", "\x06\xf7", "\x01\x00\x00", "z"},
			want: api.Block{ID: 20, Zero: 0x201, One: 0xf403, Used: 245, Pause: 0xf706, Data: []byte("z")}},
		{parts: []string{"\x14", "\xf1\xf2", "\x03\x04", "\x05", "\x06\x07", "\x00\x01\x00", zeros(256)},
			want: api.Block{ID: 20, Zero: 0xf2f1, One: 0x403, Used: 5, Pause: 0x706, Data: make([]byte, 256)}},
		{parts: []string{"\x15", "\x4f\x00", "\x01\xf2", "\xff", "\x02\x00\x00", "\xf0\x0f"},
			want: api.Block{ID: 21, Rate: 79, Pause: 0xf201, Used: 255, Data: []byte{240, 15}}},
		{parts: []string{"\x15", "\x01\xf2", "\x4f\x00", "\x03", "\x00\x01\x00", zeros(256)},
			want: api.Block{ID: 21, Rate: 0xf201, Pause: 79, Used: 3, Data: make([]byte, 256)}},
		{parts: []string{"\x18", "\x0d\x00\x00\x00", "\x01\xf2", "\x44\xac\xf1", "\xf2", "\x05\x06\x07\xf8", "xyz"},
			want: api.Block{ID: 24, Pause: 0xf201, Rate: 0xf1ac44, Pack: 242, Count: 0xf8070605, Data: []byte("xyz")}},
		{parts: []string{"\x18", "\x0a\x00\x00\x00", "\x01\x02", "\x03\x00\x00", "\x00", "\x00\x00\x00\x00"},
			want: api.Block{ID: 24, Pause: 0x201, Rate: 3}},
		{parts: []string{"\x18", "\x0b\x00\x00\x00", "\x00\x00", "\x00\x00\x00", "\x01", "\x01\x00\x00\x00", "\x05"},
			want: api.Block{ID: 24, Pack: 1, Count: 1, Data: []byte{5}}},
		{parts: []string{"\x18", "\x0b\x01\x01\x00", "\x00\x00", "\x00\x00\x00", "\x01", "\x01\x00\x00\x00", zeros(0x10101)},
			want: api.Block{ID: 24, Pack: 1, Count: 1, Data: make([]byte, 0x10101)}},
		{parts: []string{"\x20", "\x01\xf2"},
			want: api.Block{ID: 32, Pause: 0xf201}},
	}
}

// generalBlocks are generalised ones.
func generalBlocks() []written {
	many := make([]api.Sym, 256)
	many[255].Kind = 200
	return []written{
		{parts: []string{
			"\x19", "\x29\x00\x00\x00", "\x0a\xf0", "\x02\x00\x00\x00", "\x02", "\x02", "\x05\x00\x00\x00", "\x01", "\x03",
			"\x00", "\x78\x08\x00\x00", "\x01", "\x9b\x02\xdf\xf2", "\x00", "\x97\x0c", "\x01", "\x01\xf0",
			"\x00", "\x57\x03", "\xf2", "\xae\x06", "\x03", "\x01\x00", "\x19\x3f"},
			want: api.Block{ID: 25, Pause: 0xf00a, Pilot: 2, Sync1: 2, Count: 5, Zero: 1, One: 3,
				Pilots: []api.Sym{{Kind: 0, Pulses: []int{2168, 0}}, {Kind: 1, Pulses: []int{667, 0xf2df}}},
				Reps:   []api.Rep{{Sym: 0, Times: 3223}, {Sym: 1, Times: 0xf001}},
				Syms:   []api.Sym{{Kind: 0, Pulses: []int{855}}, {Kind: 242, Pulses: []int{1710}}, {Kind: 3, Pulses: []int{1}}},
				Data:   []byte{0x19, 0x3f}}},
		// Nothing of both, though the numbers tell symbols.
		{parts: []string{"\x19", "\x0e\x00\x00\x00", "\x00\x00", "\x00\x00\x00\x00", "\x02", "\xf3", "\x00\x00\x00\x00", "\x04", "\xf5"},
			want: api.Block{ID: 25, Pilot: 2, Sync1: 243, Zero: 4, One: 245}},
		// Reps alone.
		{parts: []string{"\x19", "\x14\x00\x00\x00", "\x00\x00", "\x01\x00\x00\x00", "\x01", "\x01", "\x00\x00\x00\x00", "\x04", "\x05", "\xff", "\x01\x02", "\x00", "\xff\xff"},
			want: api.Block{ID: 25, Pilot: 1, Sync1: 1, Zero: 4, One: 5, Pilots: []api.Sym{{Kind: 255, Pulses: []int{0x201}}}, Reps: []api.Rep{{Sym: 0, Times: 65535}}}},
		// Data alone, of one bit each.
		{parts: []string{"\x19", "\x1a\x00\x00\x00", "\x00\x00", "\x00\x00\x00\x00", "\x01", "\x01", "\x09\x00\x00\x00", "\x02", "\x02", "\x00", "\x01\x00\x02\x00", "\x01", "\x03\x00\x04\x00", "\xa5\xff"},
			want: api.Block{ID: 25, Pilot: 1, Sync1: 1, Count: 9, Zero: 2, One: 2, Syms: []api.Sym{{Pulses: []int{1, 2}}, {Kind: 1, Pulses: []int{3, 4}}}, Data: []byte{0xa5, 0xff}}},
		// Symbols of no bits, as many as there may be.
		{parts: []string{"\x19", "\x0f\x00\x00\x00", "\x00\x00", "\x00\x00\x00\x00", "\x00", "\x00", "\xff\xff\xff\xff", "\x00", "\x01", "\x07"},
			want: api.Block{ID: 25, Count: 1<<32 - 1, One: 1, Syms: []api.Sym{{Kind: 7}}}},
		// 256 symbols of both, without pulses.
		{parts: slices.Concat(
			[]string{"\x19", "\x13\x02\x00\x00", "\x00\x00", "\x01\x00\x00\x00", "\x00", "\x00", "\x02\x00\x00\x00", "\x00", "\x00"},
			slices.Repeat([]string{"\x00"}, 255), []string{"\xc8", "\xff", "\x01\x00"}, slices.Repeat([]string{"\x00"}, 255), []string{"\xc8", "\xff\x00"}),
			want: api.Block{ID: 25, Count: 2, Pilots: many, Reps: []api.Rep{{Sym: 255, Times: 1}}, Syms: many, Data: []byte{255, 0}}},
	}
}

// otherBlocks are those that lead elsewhere or tell something.
func otherBlocks() []written {
	return []written{
		{parts: []string{"\x21", "\x03", "abc"}, behind: "\x22",
			want: api.Block{ID: 33, Data: []byte("abc")}},
		{parts: []string{"\x21", "\x00"}, behind: "\x22", want: api.Block{ID: 33}},
		{parts: []string{"\x21", "\xff", zeros(255)}, behind: "\x22", want: api.Block{ID: 33, Data: make([]byte, 255)}},
		{ahead: "\x21\x00", parts: []string{"\x22"}, want: api.Block{ID: 34}},
		{parts: []string{"\x23", "\x00\x00"}, want: api.Block{ID: 35, Times: []int{0}}},
		{ahead: "\x27\x27", parts: []string{"\x23", "\xfe\xff"}, want: api.Block{ID: 35, Times: []int{-2}}},
		{parts: []string{"\x23", "\x03\x00"}, behind: "\x27\x27\x27", want: api.Block{ID: 35, Times: []int{3}}},
		{parts: []string{"\x24", "\x02\xf0"}, behind: "\x25", want: api.Block{ID: 36, Count: 0xf002}},
		{ahead: "\x24\x02\x00", parts: []string{"\x25"}, want: api.Block{ID: 37}},
		{parts: []string{"\x26", "\x00\x00"}, want: api.Block{ID: 38}},
		{ahead: "\x27", parts: []string{"\x26", "\x03\x00", "\x00\x00", "\xff\xff", "\x01\x00"}, behind: "\x27", want: api.Block{ID: 38, Times: []int{0, -1, 1}}},
		{parts: append([]string{"\x26", "\x02\x01"}, slices.Repeat([]string{"\x00\x00"}, 258)...), want: api.Block{ID: 38, Times: make([]int, 258)}},
		{parts: []string{"\x27"}, want: api.Block{ID: 39}},
		{parts: []string{"\x28", "\x01\x00", "\x00"}, want: api.Block{ID: 40}},
		{ahead: "\x27", parts: []string{"\x28", "\x0d\x00", "\x03", "\xff\xff", "\x02", "ab", "\x00\x00", "\x00", "\x01\x00", "\x01", "c"}, behind: "\x27",
			want: api.Block{ID: 40, Items: []api.Item{{N: -1, Text: []byte("ab")}, {N: 0}, {N: 1, Text: []byte("c")}}}},
		{parts: []string{"\x28", "\x03\x01", "\x01", "\x00\x00", "\xff", zeros(255)},
			want: api.Block{ID: 40, Items: []api.Item{{Text: make([]byte, 255)}}}},
		{parts: []string{"\x2a", "\x00\x00\x00\x00"}, want: api.Block{ID: 42}},
		{parts: []string{"\x2b", "\x01\x00\x00\x00", "\x00"}, want: api.Block{ID: 43}},
		{parts: []string{"\x2b", "\x01\x00\x00\x00", "\x01"}, want: api.Block{ID: 43, Used: 1}},
		{parts: []string{"\x30", "\x02", "hi"}, want: api.Block{ID: 48, Data: []byte("hi")}},
		{parts: []string{"\x30", "\xff", zeros(255)}, want: api.Block{ID: 48, Data: make([]byte, 255)}},
		{parts: []string{"\x31", "\xf5", "\x02", "hi"}, want: api.Block{ID: 49, Count: 245, Data: []byte("hi")}},
		{parts: []string{"\x31", "\x02", "\xf5", zeros(245)}, want: api.Block{ID: 49, Count: 2, Data: make([]byte, 245)}},
		{parts: []string{"\x32", "\x01\x00", "\x00"}, want: api.Block{ID: 50}},
		{parts: []string{"\x32", "\x08\x00", "\x02", "\x00", "\x03", "abc", "\xff", "\x00"},
			want: api.Block{ID: 50, Items: []api.Item{{N: 0, Text: []byte("abc")}, {N: 255}}}},
		{parts: []string{"\x33", "\x02", "\x00\x01\x02\xff\xfe\xfd"}, want: api.Block{ID: 51, Times: []int{0, 1, 2, 255, 254, 253}}},
		{parts: []string{"\x33", "\x00"}, want: api.Block{ID: 51}},
		{parts: []string{"\x33", "\xff", zeros(765)}, want: api.Block{ID: 51, Times: make([]int, 765)}},
		{parts: []string{"\x34", "12345678"}, want: api.Block{ID: 52, Data: []byte("12345678")}},
		{parts: []string{"\x35", "0123456789abcdef", "\x02\x00\x00\x00", "hi"},
			want: api.Block{ID: 53, Items: []api.Item{{Text: []byte("0123456789abcdef")}}, Data: []byte("hi")}},
		{parts: []string{"\x35", zeros(16), "\x01\x01\x01\x00", zeros(0x10101)},
			want: api.Block{ID: 53, Items: []api.Item{{Text: make([]byte, 16)}}, Data: make([]byte, 0x10101)}},
		{parts: []string{"\x5a", "XTape!\x1a\x00\xff"}, want: api.Block{ID: 90, Data: []byte("XTape!\x1a\x00\xff")}},
	}
}

// named is whether the document's table names an ID.
func named(id int) bool {
	return slices.Contains([]int{16, 17, 18, 19, 20, 21, 24, 25, 32, 33, 34, 35, 36, 37, 38, 39, 40, 42, 43, 48, 49, 50, 51, 52, 53, 90}, id)
}

// unnamedBlocks are those of all other IDs.
func unnamedBlocks() []written {
	var l []written
	for id := range 256 {
		if !named(id) {
			l = append(l,
				written{parts: []string{string([]byte{byte(id)}), "\x00\x00\x00\x00"}, want: api.Block{ID: id}},
				written{parts: []string{string([]byte{byte(id)}), "\x05\x00\x00\x00", "hello"}, want: api.Block{ID: id, Data: []byte("hello")}},
				written{parts: []string{string([]byte{byte(id)}), "\x02\x01\x00\x00", zeros(258)}, want: api.Block{ID: id, Data: make([]byte, 258)}})
		}
	}
	return append(l, written{parts: []string{"\x44", "\x01\x01\x01\x00", zeros(0x10101)}, want: api.Block{ID: 68, Data: make([]byte, 0x10101)}})
}

func allBlocks() []written {
	return slices.Concat(soundBlocks(), generalBlocks(), otherBlocks(), unnamedBlocks())
}

// mates are the blocks that a written one has beside it.
func mates(s string) []api.Block {
	switch s {
	case "\x27":
		return []api.Block{{ID: 39}}
	case "\x27\x27":
		return []api.Block{{ID: 39}, {ID: 39}}
	case "\x27\x27\x27":
		return []api.Block{{ID: 39}, {ID: 39}, {ID: 39}}
	case "\x22":
		return []api.Block{{ID: 34}}
	case "\x25":
		return []api.Block{{ID: 37}}
	case "\x21\x00":
		return []api.Block{{ID: 33}}
	case "\x24\x02\x00":
		return []api.Block{{ID: 36, Count: 2}}
	}
	return nil
}

// 19.1: what is read

func TestExamples(t *testing.T) {
	checkBlocks(t, "ten bytes", "")
	checkWrong(t, "37 behind", "\x25", api.ErrLoop, 0)
}

func TestEachBlock(t *testing.T) {
	for _, w := range allBlocks() {
		want := slices.Concat(mates(w.ahead), []api.Block{w.want}, mates(w.behind))
		checkBlocks(t, "alone", w.ahead+w.whole()+w.behind, want...)
		// What stands ahead and behind is kept apart from it.
		want = slices.Concat([]api.Block{{ID: 32, Pause: 7}}, want, []api.Block{{ID: 48, Data: []byte("x")}, {ID: 39}})
		checkBlocks(t, "between others", "\x20\x07\x00"+w.ahead+w.whole()+w.behind+"\x30\x01x\x27", want...)
	}
}

func TestVersions(t *testing.T) {
	for v := range 256 {
		checkTape(t, "version", []byte("ZXTape!\x1a"+string([]byte{byte(v), byte(255 - v)})), api.Tape{Major: v, Minor: 255 - v})
	}
	checkTape(t, "version with a block", []byte("ZXTape!\x1a\x00\x00\x27"), api.Tape{Blocks: []api.Block{{ID: 39}}})
}

// TestAllTogether has all blocks that are written out in one file.
func TestAllTogether(t *testing.T) {
	var file strings.Builder
	var want []api.Block
	for _, w := range allBlocks() {
		file.WriteString(w.ahead + w.whole() + w.behind)
		want = slices.Concat(want, mates(w.ahead), []api.Block{w.want}, mates(w.behind))
	}
	checkBlocks(t, "all together", file.String(), want...)
}

// 19.1: bytes that are missing

// TestEachCut cuts each block that is written out at each of its places.
func TestEachCut(t *testing.T) {
	for _, w := range allBlocks() {
		for _, ahead := range []string{w.ahead, "\x30\x03xyz" + w.ahead} {
			before := head + ahead
			for i, part := range w.parts {
				for n := range len(part) {
					// Of long parts not each place is tried; of an ID there is
					// just one, at which there is no block yet.
					if i == 0 || n > 20 && n < len(part)-3 {
						continue
					}
					checkFault(t, "cut", []byte(before+part[:n]), api.ErrEnd, len(before))
				}
				before += part
			}
		}
	}
}

func TestShortHeads(t *testing.T) {
	for n := range 8 {
		checkFault(t, "a short sign", []byte(head[:n]), api.ErrSign, 0)
	}
	checkFault(t, "nothing", nil, api.ErrSign, 0)
	checkFault(t, "a sign alone", []byte(head[:8]), api.ErrEnd, 8)
	checkFault(t, "half a version", []byte(head[:9]), api.ErrEnd, 9)
}

// TestFarTooMany has lengths and counts that tell far more than there is.
func TestFarTooMany(t *testing.T) {
	for _, x := range []struct {
		b  string
		at int
	}{
		{"\x10\x00\x00\xff\xff", 5},
		{"\x11" + zeros(15) + "\xff\xff\xffabc", 19},
		{"\x13\xff\x01\x00", 2},
		{"\x13\x01\x01", 2},
		{"\x14" + zeros(7) + "\xff\xff\xffabc", 11},
		{"\x15" + zeros(5) + "\xff\xff\xffabc", 9},
		{"\x18\xff\xff\xff\xff" + zeros(10) + "abc", 15},
		{"\x19\xff\xff\xff\xff" + zeros(2) + "\xff\xff\xff\xff\x00\x01" + zeros(4) + "\x00\x01" + "\x00", 20},
		{"\x19\xff\xff\xff\xff" + zeros(2) + "\xff\xff\xff\xff\x00\x01" + zeros(4) + "\x00\x01" + "\x00" + "\x00\x07\x07", 23},
		{"\x19\xff\xff\xff\xff" + zeros(2) + "\xff\xff\xff\xff\x00\x01" + zeros(4) + "\x00\x01" + "\x00" + "\x00\x07", 21},
		{"\x19\xff\xff\xff\xff" + zeros(2) + zeros(4) + "\x00\x01\xff\xff\xff\xff\x00\x03" + "\x00\x00\x00abc", 22},
		{"\x19\xff\xff\xff\xff" + zeros(2) + zeros(4) + "\x00\x01\xff\xff\xff\xff\x00\x00" + zeros(256), 275},
		{"\x19\xff\xff\xff\xff" + zeros(2) + "\x01\x00\x00\x00\xff\x01" + zeros(4) + "\x00\x01" + "\x09" + zeros(509), 20},
		{"\x19\xff\xff\xff\xff" + zeros(2) + zeros(4) + "\x00\x01\x01\x00\x00\x00\xff\x01" + "\x09" + zeros(509), 20},
		{"\x21\xff", 2},
		{"\x26\xff\xff", 3},
		{"\x26\xff\xff\x00\x00\x00", 5},
		{"\x28\xff\xff\xff", 4},
		{"\x28\xff\xff\xff\x00\x00\x00", 7},
		{"\x28\xff\xff\xff\x00\x00\x05abcd", 7},
		{"\x30\x01", 2},
		{"\x31\x00\xff", 3},
		{"\x32\xff\xff\xff", 4},
		{"\x32\xff\xff\xff\x00\x00", 6},
		{"\x32\xff\xff\xff\x00\x05abcd", 6},
		{"\x33\x01\x00\x00", 2},
		{"\x33\xff" + zeros(764), 2},
		{"\x35" + zeros(16) + "\xff\xff\xff\xffabc", 21},
		{"\x00\xff\xff\xff\xffabc", 5},
		{"\x00\x00\x00\x00\x01" + zeros(1000), 5},
		{"\x16\x00\x00\x00\x80", 5},
	} {
		checkWrong(t, "too many", x.b, api.ErrEnd, x.at)
		checkWrong(t, "too many, behind others", "\x27\x30\x02ab"+x.b, api.ErrEnd, x.at+5)
	}
}
