package tzx

import (
	"encoding/binary"
	"reflect"
	"slices"
	"strings"
	"testing"

	"squeal/api"
)

// A second reader: it goes by the document's table, told as text, and leaves by
// a panic at its first fault.

// table is what the parts of blocks are by their IDs: a number by its name and
// how many bytes it has, Data by = and its length's bytes or by : and its own.
// Those that aren't here are read by words of their own.
func table(id int) string {
	switch id {
	case 16:
		return "Pause2 Data=2"
	case 17:
		return "Pilot2 Sync12 Sync22 Zero2 One2 Count2 Used1 Pause2 Data=3"
	case 18:
		return "Tone2 Count2"
	case 20:
		return "Zero2 One2 Used1 Pause2 Data=3"
	case 21:
		return "Rate2 Pause2 Used1 Data=3"
	case 32:
		return "Pause2"
	case 33, 48:
		return "Data=1"
	case 34, 37, 39, 42:
		return ""
	case 36:
		return "Count2"
	case 43:
		return "Used1"
	case 49:
		return "Count1 Data=1"
	case 52:
		return "Data:8"
	case 90:
		return "Data:9"
	}
	return "Data=4"
}

// left is how a second reader leaves.
type left struct {
	e  api.Errno
	at int
}

type second struct {
	b  []byte
	at int
}

func (s *second) take(n int) []byte {
	if n > len(s.b)-s.at {
		panic(left{api.ErrEnd, s.at})
	}
	s.at += n
	return s.b[s.at-n : s.at]
}

func (s *second) number(n int) int {
	return int(binary.LittleEndian.Uint64(append(slices.Clone(s.take(n)), make([]byte, 8)...)[:8]))
}

func (s *second) signed() int {
	n := s.number(2)
	if n >= 32768 {
		n -= 65536
	}
	return n
}

func (s *second) numbers(many, n int) []int {
	var l []int
	row := second{b: s.take(many * n)}
	for range many {
		l = append(l, row.number(n))
	}
	return l
}

// fields reads what the table tells of an ID.
func (s *second) fields(b *api.Block) {
	for _, word := range strings.Fields(table(b.ID)) {
		name, n := word[:len(word)-1], int(word[len(word)-1]-'0')
		switch name {
		case "Data=":
			b.Data = s.take(s.number(n))
		case "Data:":
			b.Data = s.take(n)
		default:
			reflect.ValueOf(b).Elem().FieldByName(name).SetInt(int64(s.number(n)))
		}
	}
}

func (s *second) symbols(said, long int) []api.Sym {
	if said == 0 {
		said = 256
	}
	var l []api.Sym
	for range said {
		kind := s.number(1)
		l = append(l, api.Sym{Kind: kind, Pulses: s.numbers(long, 2)})
	}
	return l
}

func (s *second) general(b *api.Block) {
	b.Pause = s.number(2)
	p := s.number(4)
	b.Pilot, b.Sync1 = s.number(1), s.number(1)
	b.Count = s.number(4)
	b.Zero, b.One = s.number(1), s.number(1)
	if p != 0 {
		b.Pilots = s.symbols(b.Sync1, b.Pilot)
	}
	for range p {
		at := s.at
		sym := s.number(1)
		if sym >= len(b.Pilots) {
			panic(left{api.ErrRange, at})
		}
		b.Reps = append(b.Reps, api.Rep{Sym: sym, Times: s.number(2)})
	}
	if b.Count == 0 {
		return
	}
	b.Syms = s.symbols(b.One, b.Zero)
	bits := 0
	for 1<<bits < len(b.Syms) {
		bits++
	}
	at := s.at
	b.Data = s.take((b.Count*bits + 7) / 8)
	// Of no bits there may be far too many to be gone through, all of them 0.
	if bits == 0 {
		return
	}
	all := signs(b.Data)
	for i := range b.Count {
		if sym, _ := cutOut(all, bits, i); sym >= len(b.Syms) {
			panic(left{api.ErrRange, at})
		}
	}
}

func (s *second) items(n int) []api.Item {
	var l []api.Item
	for range s.number(1) {
		x := api.Item{}
		if n == 2 {
			x.N = s.signed()
		} else {
			x.N = s.number(1)
		}
		x.Text = s.take(s.number(1))
		l = append(l, x)
	}
	return l
}

func (s *second) exactly(n int) {
	at := s.at
	if s.number(4) != n {
		panic(left{api.ErrForm, at})
	}
}

func (s *second) block() api.Block {
	begin := s.at
	b := api.Block{ID: s.number(1)}
	length, from := -1, 0
	follows := func(n int) {
		length = s.number(n)
		from = s.at
	}
	switch b.ID {
	case 19:
		b.Times = s.numbers(s.number(1), 2)
	case 24:
		follows(4)
		b.Pause, b.Rate, b.Pack, b.Count = s.number(2), s.number(3), s.number(1), s.number(4)
		if length < 10 {
			panic(left{api.ErrForm, begin})
		}
		b.Data = s.take(length - 10)
	case 25:
		follows(4)
		s.general(&b)
	case 35:
		b.Times = []int{s.signed()}
	case 38:
		for range s.number(2) {
			b.Times = append(b.Times, s.signed())
		}
	case 40:
		follows(2)
		b.Items = s.items(2)
	case 50:
		follows(2)
		b.Items = s.items(1)
	case 51:
		b.Times = s.numbers(3*s.number(1), 1)
	case 53:
		b.Items = []api.Item{{Text: s.take(16)}}
		s.fields(&b)
	case 42:
		s.exactly(0)
	case 43:
		s.exactly(1)
		s.fields(&b)
		if b.Used > 1 {
			panic(left{api.ErrForm, s.at - 1})
		}
	case 90:
		s.fields(&b)
		if string(b.Data[:7]) != "XTape!\x1a" {
			panic(left{api.ErrSign, begin + 1})
		}
	default:
		s.fields(&b)
	}
	if length >= 0 && s.at-from != length {
		panic(left{api.ErrForm, begin})
	}
	return b
}

// told is what the second reader tells of b.
func told(b []byte) (x api.Tape, e api.Errno, at int) {
	defer func() {
		if f, ok := recover().(left); ok {
			x, e, at = api.Tape{}, f.e, f.at
		}
	}()
	if len(b) > 1048576 {
		return x, api.ErrLong, 0
	}
	if len(b) < 8 || string(b[:8]) != "ZXTape!\x1a" {
		return x, api.ErrSign, 0
	}
	s := second{b: b, at: 8}
	x.Major, x.Minor = s.number(1), s.number(1)
	var begins []int
	for s.at < len(b) {
		if len(begins) == 4096 {
			panic(left{api.ErrLong, s.at})
		}
		begins = append(begins, s.at)
		x.Blocks = append(x.Blocks, s.block())
	}
	if i, e := soundByWords(x.Blocks); e != api.OK {
		panic(left{e, begins[i]})
	}
	return x, api.OK, 0
}

// Bytes by chance, of which many are tapes.

func (c *chance) text(n int) string {
	return string(c.bytes(c.below(n)))
}

func number(n, v int) string {
	return string(binary.LittleEndian.AppendUint64(nil, uint64(v))[:n])
}

func withLength(n int, s string) string {
	return number(n, len(s)) + s
}

func (c *chance) items(n, way int) string {
	count := c.below(4)
	s := number(1, count)
	for range count {
		s += number(n, c.below(2)*way) + withLength(1, c.text(5))
	}
	return withLength(2, s)
}

func (c *chance) general() string {
	pilots, syms, long := 1+c.below(5), 1+c.below(5), c.below(3)
	var reps []api.Rep
	for range c.below(4) {
		reps = append(reps, api.Rep{Sym: c.below(pilots), Times: c.below(65536)})
	}
	var l []int
	for range c.below(12) {
		l = append(l, c.below(syms))
	}
	bits := bitsOf(syms)
	return generalOf(pilots, syms, long, reps, len(l), dataOf(bits, "1", l...))
}

// block is a block; way is a number that may lead to another.
func (c *chance) block(way int) string {
	named := []int{16, 17, 18, 19, 20, 21, 24, 25, 25, 32, 35, 38, 39, 40, 42, 43, 48, 49, 50, 51, 52, 53, 90}
	id := c.below(256)
	if c.below(8) > 0 {
		id = named[c.below(len(named))]
	}
	first := string([]byte{byte(id)})
	switch id {
	case 16:
		return first + string(c.bytes(2)) + withLength(2, c.text(20))
	case 17:
		return first + string(c.bytes(15)) + withLength(3, c.text(20))
	case 18:
		return first + string(c.bytes(4))
	case 19:
		n := c.below(6)
		return first + number(1, n) + string(c.bytes(2*n))
	case 20:
		return first + string(c.bytes(7)) + withLength(3, c.text(20))
	case 21:
		return first + string(c.bytes(5)) + withLength(3, c.text(20))
	case 24:
		return first + withLength(4, string(c.bytes(10))+c.text(20))
	case 25:
		return c.general()
	case 32, 36:
		return first + string(c.bytes(2))
	case 33, 48:
		return first + withLength(1, c.text(20))
	case 34, 37, 39:
		return first
	case 35:
		return first + number(2, way)
	case 38:
		n := c.below(4)
		return first + number(2, n) + strings.Repeat(number(2, way), n)
	case 40:
		return first + c.items(2, way)
	case 42:
		return first + zeros(4)
	case 43:
		return first + number(4, 1) + number(1, c.below(2))
	case 49:
		return first + string(c.bytes(1)) + withLength(1, c.text(20))
	case 50:
		return first + c.items(1, c.below(256))
	case 51:
		n := c.below(4)
		return first + number(1, n) + string(c.bytes(3*n))
	case 52:
		return first + string(c.bytes(8))
	case 53:
		return first + string(c.bytes(16)) + withLength(4, c.text(20))
	case 90:
		return first + "XTape!\x1a" + string(c.bytes(2))
	}
	return first + withLength(4, c.text(20))
}

// tape is a file; now and then blocks stand in loops and groups.
func (c *chance) tape() []byte {
	b := []byte(head[:8] + string(c.bytes(2)))
	n := c.below(8)
	for i := range n {
		s := c.block(c.below(n) - i)
		switch c.below(12) {
		case 0:
			s = "\x24" + string(c.bytes(2)) + s + "\x25"
		case 1:
			s = "\x21" + withLength(1, c.text(5)) + s + "\x22"
		}
		b = append(b, s...)
	}
	return b
}

// changed is b with something of it changed, or not.
func (c *chance) changed(b []byte) []byte {
	switch c.below(6) {
	case 0:
		return b[:c.below(len(b)+1)]
	case 1:
		b[c.below(len(b))] ^= 1 << c.below(8)
	case 2:
		b[c.below(len(b))] = byte(c.below(256))
	case 3:
		at := c.below(len(b) + 1)
		return slices.Insert(b, at, c.bytes(1+c.below(3))...)
	case 4:
		at := c.below(len(b))
		return slices.Delete(b, at, at+1)
	}
	return b
}

func TestParseByChance(t *testing.T) {
	c := chance(191)
	count := map[api.Errno]int{}
	for range 60000 {
		b := c.changed(c.tape())
		x, e, at := told(b)
		if e == api.OK {
			checkTape(t, "by chance", b, x)
		} else {
			checkFault(t, "by chance", b, e, at)
		}
		count[e]++
	}
	for _, e := range []api.Errno{api.OK, api.ErrEnd, api.ErrSign, api.ErrForm, api.ErrRange, api.ErrLoop} {
		if count[e] < 200 {
			t.Errorf("too few of a kind: %v", count)
		}
	}
}

// TestParseOfShortRows has all rows of two bytes behind a head.
func TestParseOfShortRows(t *testing.T) {
	for pair := range 65536 {
		b := []byte(head + string([]byte{byte(pair >> 8), byte(pair)}))
		x, e, at := told(b)
		if e == api.OK {
			checkTape(t, "two bytes", b, x)
		} else {
			checkFault(t, "two bytes", b, e, at)
		}
		if pair < 256 {
			b = []byte(head + string([]byte{byte(pair)}))
			x, e, at = told(b)
			if e == api.OK {
				checkTape(t, "one byte", b, x)
			} else {
				checkFault(t, "one byte", b, e, at)
			}
		}
	}
}

// TestEachBitOfBlocks changes each bit of each block that is written out.
func TestEachBitOfBlocks(t *testing.T) {
	for _, w := range slices.Concat(soundBlocks(), generalBlocks(), otherBlocks()) {
		whole := []byte(head + w.ahead + w.whole() + w.behind)
		if len(whole) > 600 {
			continue
		}
		for bit := range 8 * len(whole) {
			b := slices.Clone(whole)
			b[bit/8] ^= 1 << (bit % 8)
			x, e, at := told(b)
			if e == api.OK {
				checkTape(t, "a bit", b, x)
			} else {
				checkFault(t, "a bit", b, e, at)
			}
		}
	}
}

// 19.3: a tape that is read has at most 4,096 blocks, and what has a fault byte
// by byte has it whatever stands behind.
func TestBytesBehindByChance(t *testing.T) {
	c := chance(1930)
	n := 0
	for range 20000 {
		b := c.changed(c.tape())
		x, err := Parse(b)
		if err == nil && len(x.Blocks) > 4096 {
			t.Fatalf("a tape of %d blocks", len(x.Blocks))
		}
		_, e, at := told(b)
		// Too few bytes for a sign, and what is wrong of blocks beside others, can
		// be mended by bytes behind.
		_, _, ofBlocks := told(append(slices.Clone(b), 16))
		if e == api.OK || e == api.ErrEnd || len(b) < 8 || at != ofBlocks {
			continue
		}
		n++
		checkFault(t, "bytes behind", append(b, c.bytes(1+c.below(50))...), e, at)
	}
	if n < 300 {
		t.Errorf("only %d have such a fault", n)
	}
}
