package tzx

import (
	"slices"
	"strings"
	"testing"

	"squeal/api"
	"squeal/wire"
)

// 19.1: signs

func TestSigns(t *testing.T) {
	for i := range 8 {
		for bit := range 8 {
			b := []byte(head + "\x27")
			b[i] ^= 1 << bit
			checkFault(t, "another sign", b, api.ErrSign, 0)
			checkFault(t, "another sign alone", b[:8], api.ErrSign, 0)
		}
	}
	checkFault(t, "nothing of it", make([]byte, 100), api.ErrSign, 0)
	checkFault(t, "a sign that begins later", []byte("\x00"+head), api.ErrSign, 0)
	checkFault(t, "another sign, and a fault behind", []byte("ZXTape?\x1a\x01\x14\x10"), api.ErrSign, 0)
}

func TestSignsOfGlue(t *testing.T) {
	for i := range 7 {
		for bit := range 8 {
			b := []byte("\x27\x5aXTape!\x1a\x01\x14\x27")
			b[2+i] ^= 1 << bit
			checkWrong(t, "another sign", string(b), api.ErrSign, 2)
			checkWrong(t, "another sign at the end", string(b[:11]), api.ErrSign, 2)
			// Bytes that are missing are told first, where they are.
			checkWrong(t, "another sign, cut", string(b[:10]), api.ErrEnd, 2)
			checkWrong(t, "another sign, cut in it", string(b[:8]), api.ErrEnd, 2)
		}
	}
	for v := range 256 {
		version := []byte("XTape!\x1a" + string([]byte{byte(v), byte(v * 7)}))
		checkBlocks(t, "each version", "\x5a"+string(version), api.Block{ID: 90, Data: version})
	}
}

// 19.1: numbers that may not be

func TestNumbersThatMayNotBe(t *testing.T) {
	for _, x := range []struct {
		b  string
		at int
	}{
		{"\x2a\x01\x00\x00\x00", 1},
		{"\x2a\x00\x01\x00\x00", 1},
		{"\x2a\x00\x00\x01\x00", 1},
		{"\x2a\x00\x00\x00\x01", 1},
		{"\x2a\x00\x00\x00\x80", 1},
		{"\x2a\xff\xff\xff\xff", 1},
		{"\x2b\x00\x00\x00\x00\x00", 1},
		{"\x2b\x02\x00\x00\x00\x00", 1},
		{"\x2b\x01\x01\x00\x00\x00", 1},
		{"\x2b\x01\x00\x01\x00\x01", 1},
		{"\x2b\x01\x00\x00\x01\x01", 1},
		{"\x2b\x00\x00\x00\x01\x01", 1},
		{"\x2b\x01\x00\x00\x00\x02", 5},
		{"\x2b\x01\x00\x00\x00\x80", 5},
		{"\x2b\x01\x00\x00\x00\xff", 5},
		// The first of two.
		{"\x2b\x02\x00\x00\x00\x02", 1},
		{"\x2b\x02\x00\x00\x00", 1},
		{"\x2b\x00\x00\x00\x00", 1},
	} {
		checkWrong(t, "such a number", x.b, api.ErrForm, x.at)
		checkWrong(t, "such a number between others", "\x27\x27"+x.b+"\x27", api.ErrForm, x.at+2)
	}
	checkWrong(t, "missing, and wrong already", "\x2a\x01\x00\x00", api.ErrEnd, 1)
	checkWrong(t, "missing, and wrong already", "\x2b\x02\x00\x00", api.ErrEnd, 1)
	for v := 2; v < 256; v++ {
		checkWrong(t, "each level", "\x2b\x01\x00\x00\x00"+string([]byte{byte(v)}), api.ErrForm, 5)
	}
}

// 19.1: lengths of what follows

// TestOtherLengths tells lengths that are others than those of what follows.
func TestOtherLengths(t *testing.T) {
	for _, w := range slices.Concat(generalBlocks(), otherBlocks()) {
		if w.want.ID != 25 && w.want.ID != 40 && w.want.ID != 50 {
			continue
		}
		before := len(w.ahead)
		for i := range len(w.parts[1]) {
			for bit := range 8 {
				b := []byte(w.ahead + w.whole() + w.behind)
				b[before+1+i] ^= 1 << bit
				checkWrong(t, "another length", string(b), api.ErrForm, before)
				checkWrong(t, "another length behind others", "\x30\x01x"+string(b), api.ErrForm, before+3)
			}
		}
		// Whatever is wrong ahead of the block's end is told first.
		b := []byte(w.ahead + w.whole())
		b[before+1] ^= 255
		checkWrong(t, "another length, cut", string(b[:len(b)-1]), api.ErrEnd, before+len(w.whole())-len(w.parts[len(w.parts)-1]))
	}
}

func TestShortPackedBlocks(t *testing.T) {
	const rest = "\x01\x02\x03\x04\x05\x01\x06\x07\x08\x09"
	for n := range 10 {
		length := string([]byte{byte(n), 0, 0, 0})
		checkWrong(t, "too short", "\x18"+length+rest, api.ErrForm, 0)
		checkWrong(t, "too short, with bytes behind", "\x27\x30\x00\x18"+length+rest+zeros(100), api.ErrForm, 3)
		// It is told when the Count is read, not ahead.
		for i, at := range []int{0, 0, 2, 2, 2, 5, 6, 6, 6, 6} {
			checkWrong(t, "too short, cut", "\x18"+length+rest[:i], api.ErrEnd, 5+at)
		}
	}
}

// TestPackedLengths has the length of a packed block tell its Data, wherever
// that ends.
func TestPackedLengths(t *testing.T) {
	const rest = "\x00\x00\x00\x00\x00\x01\x00\x00\x00\x00"
	for n := range 300 {
		length := string(wire.Put(nil, 4, n+10))
		want := api.Block{ID: 24, Pack: 1, Data: make([]byte, n)}
		checkBlocks(t, "length", "\x18"+length+rest+zeros(n), want)
		checkBlocks(t, "length, and a block behind", "\x18"+length+rest+zeros(n)+"\x27", want, api.Block{ID: 39})
		if n > 0 {
			checkWrong(t, "a byte too few", "\x18"+length+rest+zeros(n-1), api.ErrEnd, 15)
		}
	}
}

// 19.1: symbols that are too great

// generalOf is a generalised block of so many symbols on both sides, each of a
// pulse or none, with reps and data as they are handed in.
func generalOf(pilots, syms, long int, reps []api.Rep, count int, data []byte) string {
	b := wire.Put(nil, 2, 0)
	b = wire.Put(b, 4, len(reps))
	b = append(b, byte(long), byte(pilots))
	b = wire.Put(b, 4, count)
	b = append(b, byte(long), byte(syms))
	if len(reps) > 0 {
		b = append(b, make([]byte, pilots*(1+2*long))...)
	}
	for _, x := range reps {
		b = wire.Put(append(b, byte(x.Sym)), 2, x.Times)
	}
	if count > 0 {
		b = append(append(b, make([]byte, syms*(1+2*long))...), data...)
	}
	return "\x19" + string(wire.Put(nil, 4, len(b))) + string(b)
}

func TestRepsOfNoSymbol(t *testing.T) {
	for pilots := 1; pilots < 256; pilots += 1 + pilots/9 {
		for _, sym := range []int{pilots - 1, pilots, pilots + 1, 255} {
			if sym > 255 {
				continue
			}
			for place := range 3 {
				reps := []api.Rep{{Sym: 0, Times: 9}, {Sym: pilots / 2, Times: 0}, {Sym: pilots - 1, Times: 65535}}
				reps[place].Sym = sym
				b := generalOf(pilots, 1, 1, reps, 0, nil)
				at := 19 + 3*pilots + 3*place
				if sym < pilots {
					if _, err := Parse([]byte(head + b)); err != nil {
						t.Fatalf("a Rep of symbol %d of %d is a fault: %v", sym, pilots, err)
					}
					continue
				}
				checkWrong(t, "no symbol", b, api.ErrRange, at)
				checkWrong(t, "no symbol, and another block", "\x30\x00"+b+"\x27", api.ErrRange, at+2)
				// Its own Times come behind it, and so does all else.
				for n := at + 1; n < len(b); n++ {
					checkWrong(t, "no symbol, cut", b[:n], api.ErrRange, at)
				}
			}
		}
	}
	for sym := range 256 {
		reps := []api.Rep{{Sym: sym, Times: 1}}
		if _, err := Parse([]byte(head + generalOf(256, 1, 0, reps, 0, nil))); err != nil {
			t.Fatalf("a Rep of symbol %d of 256 is a fault: %v", sym, err)
		}
	}
}

// dataOf is symbols of so many bits each, up to whole bytes; what is left of the
// last one is filled with one bit.
func dataOf(bits int, fill string, l ...int) []byte {
	var s strings.Builder
	for _, x := range l {
		for i := bits - 1; i >= 0; i-- {
			s.WriteByte("01"[x>>i&1])
		}
	}
	for s.Len()%8 != 0 {
		s.WriteString(fill)
	}
	var b []byte
	for i := 0; i < s.Len(); i += 8 {
		v := 0
		for _, sign := range s.String()[i : i+8] {
			v = 2*v + int(sign-'0')
		}
		b = append(b, byte(v))
	}
	return b
}

// bitsOf is the fewest bits that tell one of n, as the document's words have it.
func bitsOf(n int) int {
	bits := 0
	for n > 1<<bits {
		bits++
	}
	return bits
}

func TestDataOfNoSymbol(t *testing.T) {
	for syms := 1; syms < 257; syms++ {
		bits := bitsOf(syms)
		for count := 1; count < 11; count++ {
			at := 19 + syms
			l := make([]int, count)
			for i := range l {
				l[i] = (syms - 1) * (i % 2)
			}
			l[count-1] = syms - 1
			for _, fill := range []string{"0", "1"} {
				data := dataOf(bits, fill, l...)
				b := generalOf(1, syms, 0, nil, count, data)
				x, err := Parse([]byte(head + b))
				if err != nil || !slices.Equal(x.Blocks[0].Data, data) {
					t.Fatalf("%d of %d symbols aren't read: %v", count, syms, err)
				}
			}
			for sym := syms; sym < 1<<bits; sym += 1 + (sym-syms)/2 {
				place := (sym + count) % count
				kept := l[place]
				l[place] = sym
				data := dataOf(bits, "0", l...)
				l[place] = kept
				b := generalOf(1, syms, 0, nil, count, data)
				checkWrong(t, "no symbol", b, api.ErrRange, at)
				checkWrong(t, "no symbol, and another block", "\x27"+b+"\x27", api.ErrRange, at+1)
				checkWrong(t, "no symbol, cut", b[:len(b)-1], api.ErrEnd, at)
				// The length of what follows is asked for at the end.
				checkWrong(t, "no symbol, another length", "\x19\x00"+b[2:], api.ErrRange, at)
			}
		}
	}
}

// TestWholeBytes has symbols end with a byte, or within one.
func TestWholeBytes(t *testing.T) {
	for count := 1; count < 40; count++ {
		for _, syms := range []int{2, 3, 5, 9, 17, 33, 65, 129, 256} {
			n := (count*bitsOf(syms) + 7) / 8
			b := generalOf(1, syms, 0, nil, count, make([]byte, n))
			if _, err := Parse([]byte(head + b)); err != nil {
				t.Fatalf("%d of %d symbols aren't read: %v", count, syms, err)
			}
			checkWrong(t, "a byte too few", generalOf(1, syms, 0, nil, count, make([]byte, n-1)), api.ErrEnd, 19+syms)
			more := generalOf(1, syms, 0, nil, count, make([]byte, n+1))
			checkWrong(t, "a byte too many", more, api.ErrForm, 0)
		}
	}
}

// 19.1: limits

func TestManyBlocks(t *testing.T) {
	for _, n := range []int{4094, 4095, 4096} {
		checkBlocks(t, "many blocks", strings.Repeat("\x27", n), slices.Repeat([]api.Block{{ID: 39}}, n)...)
		checkWrong(t, "the last one is cut", strings.Repeat("\x27", n-1)+"\x10", api.ErrEnd, n)
	}
	most := strings.Repeat("\x30\x00", 4096)
	// One too many is told, whatever it is, and ahead of what is wrong of the others.
	for _, behind := range []string{"\x27", "\x00", "\x10", "\x25", "\x2a\x01", "\x5aZ", "\x30\x00", "\xff\xff\xff\xff\xff", strings.Repeat("\x27", 9000)} {
		checkWrong(t, "one too many", most+behind, api.ErrLong, 8192)
		checkWrong(t, "one too many, and a loop", "\x25\x27"+most[4:]+behind, api.ErrLong, 8190)
	}
	checkWrong(t, "a jump behind the last one", most[2:]+"\x23\x01\x00", api.ErrRange, 8190)
	checkBlocks(t, "a jump from the last one to the first", strings.Repeat("\x27", 4095)+"\x23\x01\xf0",
		append(slices.Repeat([]api.Block{{ID: 39}}, 4095), api.Block{ID: 35, Times: []int{-4095}})...)
}

func TestLongFiles(t *testing.T) {
	const most = 1048576
	// A block of any other ID that fills the file.
	rest := most - len(head) - 5
	file := head + "\x00" + string(wire.Put(nil, 4, rest)) + zeros(rest)
	checkTape(t, "a full file", []byte(file), api.Tape{Major: 1, Minor: 20, Blocks: []api.Block{{Data: make([]byte, rest)}}})
	checkFault(t, "a byte fewer", []byte(file[:most-1]), api.ErrEnd, 15)
	checkFault(t, "a byte more", []byte(file+"\x27"), api.ErrLong, 0)
	// It is told ahead of all else.
	checkFault(t, "no sign", make([]byte, most), api.ErrSign, 0)
	checkFault(t, "too long, no sign", make([]byte, most+1), api.ErrLong, 0)
	checkFault(t, "too long, a fault within", []byte(head+"\x10"+strings.Repeat("\xff", most)), api.ErrLong, 0)
	checkFault(t, "too long, too many blocks", []byte(head+strings.Repeat("\x27", most)), api.ErrLong, 0)
	checkFault(t, "far too long", make([]byte, 5000000), api.ErrLong, 0)
}

// 19.1: faults in their order

func TestTheFirstFault(t *testing.T) {
	for _, x := range []struct {
		b  string
		e  api.Errno
		at int
	}{
		// What is wrong of blocks comes behind what is wrong of bytes.
		{"\x25\x10", api.ErrEnd, 2},
		{"\x25\x2a\x01\x00\x00\x00", api.ErrForm, 2},
		{"\x23\x09\x00\x18" + zeros(14), api.ErrForm, 3},
		{"\x22\x5a" + zeros(9), api.ErrSign, 2},
		{"\x24\x00\x00\x20\x00", api.ErrEnd, 4},
		{"\x23\x02\x00\x20", api.ErrEnd, 4},
		// The first byte that is wrong.
		{"\x2a\x01\x00\x00\x00\x2b\x01\x00\x00\x00\x02", api.ErrForm, 1},
		{"\x2b\x01\x00\x00\x00\x02\x10", api.ErrForm, 5},
		{"\x2b\x01\x00\x00\x00\x02\x5a" + zeros(9), api.ErrForm, 5},
		{"\x5a" + zeros(9) + "\x2a\x01\x00\x00\x00", api.ErrSign, 1},
		{"\x28\x05\x00\x00\x2a\x01\x00\x00\x00", api.ErrForm, 0},
		{"\x28\x05\x00\x01\x00\x00\x01", api.ErrEnd, 7},
		{"\x28\x05\x00\x01\x09\x00\x00", api.ErrForm, 0},
		{"\x32\x01\x00\x01\x00\x00\x10", api.ErrForm, 0},
		// The first block that is wrong.
		{"\x25\x22", api.ErrLoop, 0},
		{"\x22\x25", api.ErrLoop, 0},
		{"\x23\x02\x00\x25", api.ErrRange, 0},
		{"\x25\x23\x02\x00", api.ErrLoop, 0},
		{"\x30\x00\x26\x01\x00\xfe\xff\x28\x04\x00\x01\x01\x00\x00", api.ErrRange, 2},
	} {
		checkWrong(t, "the first fault", x.b, x.e, x.at)
	}
}

// 19.3

// TestWhatStandsBehind puts bytes behind bytes with a fault that isn't that they
// end.
func TestWhatStandsBehind(t *testing.T) {
	c := chance(193)
	behind := []string{"\x00", "\x25", "\x27", "\x10", zeros(100), "\xff\xff\xff\xff\xff", strings.Repeat("\x27", 5000), string(c.bytes(3000)), head}
	for _, b := range []string{
		"ZXTape!\x1b\x01\x14",
		"zxtape!\x1a\x01\x14",
		head + "\x2a\x01\x00\x00\x00",
		head + "\x27\x2b\x02\x00\x00\x00",
		head + "\x25\x2b\x01\x00\x00\x00\x02",
		head + "\x5aXTape?\x1a\x01\x14",
		head + "\x18\x09\x00\x00\x00" + zeros(10),
		head + "\x19\x0f\x00\x00\x00" + zeros(14),
		head + "\x28\x02\x00\x00",
		head + "\x32\x00\x00\x00",
		head + generalOf(3, 1, 1, []api.Rep{{Sym: 3}}, 0, nil),
		head + generalOf(1, 3, 1, nil, 1, []byte{192}),
		head + strings.Repeat("\x27", 4097),
	} {
		_, err := Parse([]byte(b))
		want := wire.Only(err)
		if want.E == api.ErrEnd {
			t.Fatalf("%.40q ends too early", b)
		}
		for _, more := range behind {
			checkFault(t, "bytes behind", []byte(b+more), want.E, want.At)
		}
	}
}

// memory

func TestFaultsAreNew(t *testing.T) {
	for _, b := range []string{"", head[:9], head + "\x25", head + "\x10", head + "\x2a\x01\x00\x00\x00", zeros(1048577)} {
		_, first := Parse([]byte(b))
		kept := *wire.Only(first)
		*wire.Only(first) = wire.Fault{E: api.ErrNone, At: 77}
		if _, err := Parse([]byte(b)); *wire.Only(err) != kept {
			t.Errorf("a fault is changed from %v to %v", kept, err)
		}
	}
}

// lists are all lists of numbers and all lists of bytes of a tape.
func lists(x api.Tape) (ints [][]int, rows [][]byte) {
	for _, b := range x.Blocks {
		ints, rows = append(ints, b.Times), append(rows, b.Data)
		for _, item := range b.Items {
			rows = append(rows, item.Text)
		}
		for _, sym := range slices.Concat(b.Pilots, b.Syms) {
			ints = append(ints, sym.Pulses)
		}
	}
	return ints, rows
}

// TestSharesNothing changes each list of an answer, and goes on behind it.
func TestSharesNothing(t *testing.T) {
	var whole strings.Builder
	whole.WriteString(head)
	for _, w := range slices.Concat(soundBlocks(), generalBlocks()[:5], otherBlocks()) {
		if len(w.whole()) < 100 {
			whole.WriteString(w.ahead + w.whole() + w.behind)
		}
	}
	b := []byte(whole.String())
	want, err := Parse(slices.Clone(b))
	if err != nil {
		t.Fatal(err)
	}
	one, _ := Parse(b)
	two, _ := Parse(b)
	for i := range b {
		b[i] ^= 255
	}
	if !sameTape(one, want) || !sameTape(two, want) {
		t.Fatal("a tape shares memory with the file")
	}
	ints, rows := lists(one)
	for i, l := range ints {
		_ = append(append(l, 77), 78)
		for j := range l {
			l[j] += 1000 + i
		}
	}
	for i, l := range rows {
		_ = append(append(l, 77), 78)
		for j := range l {
			l[j] += byte(1 + i)
		}
	}
	wantInts, wantRows := lists(want)
	for i, l := range ints {
		for j := range l {
			if l[j] != wantInts[i][j]+1000+i {
				t.Fatalf("list %d of numbers shares memory with another", i)
			}
		}
	}
	for i, l := range rows {
		for j := range l {
			if l[j] != wantRows[i][j]+byte(1+i) {
				t.Fatalf("list %d of bytes shares memory with another", i)
			}
		}
	}
	if !sameTape(two, want) {
		t.Fatal("two answers share memory")
	}
}
