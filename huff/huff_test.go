package huff

import (
	"math"
	"slices"
	"strconv"
	"strings"
	"testing"

	"squeal/api"
)

// treeCodes is the code of each symbol as signs 0 and 1, the first bit first:
// a tree is gone through from the left, and a place in it becomes the code of
// the next symbol that is as long.
func treeCodes(lengths []int) []string {
	type place struct{ length, symbol int }
	var order []place
	for symbol, length := range lengths {
		if length > 0 {
			order = append(order, place{length, symbol})
		}
	}
	slices.SortStableFunc(order, func(a, b place) int { return a.length - b.length })
	codes := make([]string, len(lengths))
	var walk func(text string)
	walk = func(text string) {
		if len(order) == 0 || len(text) > 15 {
			return
		}
		if order[0].length == len(text) {
			codes[order[0].symbol] = text
			order = order[1:]
			return
		}
		walk(text + "0")
		walk(text + "1")
	}
	walk("")
	return codes
}

// pack is signs 0 and 1 as bytes, the first one the lowest bit.
func pack(text string) []byte {
	b := make([]byte, (len(text)+7)/8)
	for i := range len(text) {
		b[i/8] += (text[i] - '0') << (i % 8)
	}
	return b
}

// someLengths are as many codes as wanted that are just enough, and symbols
// that have none, in an order by chance.
func someLengths(c *chance, codes, without int) []int {
	lengths := []int{1, 1}
	for len(lengths) < codes {
		i := c.below(len(lengths))
		if c.below(3) == 0 {
			i = len(lengths) - 1
		}
		if lengths[i] < 15 {
			lengths[i]++
			lengths = append(lengths, lengths[i])
		}
	}
	lengths = append(lengths, make([]int, without)...)
	for i := range lengths {
		j := c.below(i + 1)
		lengths[i], lengths[j] = lengths[j], lengths[i]
	}
	return lengths
}

// stair is one code of each length up to n, and one more of n.
func stair(n int) []int {
	var l []int
	for k := 1; k <= n; k++ {
		l = append(l, k)
	}
	return append(l, n)
}

// fixed are the lengths of symbols that layer 15 has in its Kind 1.
func fixed() []int {
	return slices.Concat(slices.Repeat([]int{8}, 144), slices.Repeat([]int{9}, 112), slices.Repeat([]int{7}, 24), slices.Repeat([]int{8}, 8))
}

// allowed are lengths that may be.
func allowed() [][]int {
	l := [][]int{
		{1, 1}, {2, 1, 3, 3}, {2, 2, 2, 2}, {3, 3, 3, 3, 3, 2, 4, 4}, {0, 1, 0, 1, 0}, {15, 1, 2, 3, 4, 5, 6, 7, 8, 9, 10, 11, 12, 13, 14, 15},
		fixed(), slices.Repeat([]int{5}, 32), slices.Repeat([]int{8}, 256), append(slices.Repeat([]int{8}, 256), make([]int, 64)...),
	}
	for n := 1; n <= 15; n++ {
		down := stair(n)
		slices.Reverse(down)
		l = append(l, stair(n), down)
	}
	c := chance(3)
	for n := 2; n <= 320; n += 1 + c.below(5) {
		l = append(l, someLengths(&c, n, c.below(321-n)))
	}
	return l
}

// hollow are lengths of no code at all, and of just one, of length 1.
func hollow() (none, one [][]int) {
	for _, n := range []int{0, 1, 2, 7, 30, 256, 319, 320} {
		none = append(none, make([]int, n))
		for _, symbol := range []int{0, 1, 5, 29, n - 2, n - 1} {
			if symbol >= 0 && symbol < n {
				l := make([]int, n)
				l[symbol] = 1
				one = append(one, l)
			}
		}
	}
	return append(none, nil), one
}

func checkRefused(t *testing.T, lengths []int, want api.Errno) {
	t.Helper()
	if table, e := New(lengths); table != nil || e != want {
		t.Errorf("New(%v) is a table: %v, and %d, not %d", lengths, table != nil, e, want)
	}
	if codes, e := Codes(lengths); len(codes) != 0 || e != want {
		t.Errorf("Codes(%v) is %v and %d, not %d", lengths, codes, e, want)
	}
}

func newTable(t *testing.T, lengths []int) *Table {
	t.Helper()
	table, e := New(lengths)
	if table == nil || e != api.OK {
		t.Fatalf("New(%v) is a table: %v, and %d", lengths, table != nil, e)
	}
	return table
}

// checkNext holds what is read of bits against what is wanted, and how many
// bits were taken then.
func checkNext(t *testing.T, table *Table, r *Bits, want int, wantE api.Errno, at int) {
	t.Helper()
	if got, e := table.Next(r); got != want || e != wantE {
		t.Fatalf("Next is %d, %d, not %d, %d", got, e, want, wantE)
	}
	if r.taken != at {
		t.Fatalf("%d bits are taken, not %d", r.taken, at)
	}
}

// 14.2

func TestCodesWrittenOut(t *testing.T) {
	for _, x := range []struct{ lengths, want []int }{
		{[]int{2, 1, 3, 3}, []int{2, 0, 6, 7}},
		{[]int{3, 3, 3, 3, 3, 2, 4, 4}, []int{2, 3, 4, 5, 6, 0, 14, 15}},
		{[]int{1, 1}, []int{0, 1}},
		{[]int{0, 1, 0, 1}, []int{0, 0, 0, 1}},
		{[]int{1}, []int{0}},
		{[]int{0, 0, 1, 0}, []int{0, 0, 0, 0}},
		{[]int{0}, []int{0}},
		{[]int{}, nil},
		{nil, nil},
		{[]int{2, 2, 2, 2}, []int{0, 1, 2, 3}},
		{[]int{2, 2, 2, 3, 0, 3}, []int{0, 1, 2, 6, 0, 7}},
		{[]int{1, 2, 3, 4, 5, 6, 7, 8, 9, 10, 11, 12, 13, 14, 15, 15}, []int{0, 2, 6, 14, 30, 62, 126, 254, 510, 1022, 2046, 4094, 8190, 16382, 32766, 32767}},
	} {
		if got, e := Codes(x.lengths); !slices.Equal(got, x.want) || e != api.OK {
			t.Errorf("Codes(%v) is %v, %d, not %v", x.lengths, got, e, x.want)
		}
	}
	got, _ := Codes(fixed())
	for symbol, want := range map[int]int{0: 0b00110000, 143: 0b10111111, 144: 0b110010000, 255: 0b111111111, 256: 0, 279: 0b0010111, 280: 0b11000000, 287: 0b11000111} {
		if got[symbol] != want {
			t.Errorf("the code of %d is %b, not %b", symbol, got[symbol], want)
		}
	}
}

func TestCodesOfAllAllowed(t *testing.T) {
	for _, lengths := range allowed() {
		got, e := Codes(lengths)
		if e != api.OK || len(got) != len(lengths) {
			t.Fatalf("Codes(%v) is %v, %d", lengths, got, e)
		}
		for symbol, text := range treeCodes(lengths) {
			want := 0
			if text != "" {
				v, _ := strconv.ParseInt(text, 2, 32)
				want = int(v)
			}
			if len(text) != lengths[symbol] || got[symbol] != want {
				t.Fatalf("of %v the code of %d is %b, not %s", lengths, symbol, got[symbol], text)
			}
		}
	}
}

func TestHollowLengths(t *testing.T) {
	none, one := hollow()
	for _, lengths := range append(none, one...) {
		codes, e := Codes(lengths)
		if e != api.OK || len(codes) != len(lengths) || slices.ContainsFunc(codes, func(c int) bool { return c != 0 }) {
			t.Errorf("Codes(%v) is %v, %d", lengths, codes, e)
		}
	}
	for _, lengths := range none {
		table := newTable(t, lengths)
		for _, b := range [][]byte{{0}, {255}, {1, 2, 3, 4}} {
			r := Read(b)
			for range 2 {
				checkNext(t, table, r, 0, api.ErrForm, 0)
			}
		}
		checkNext(t, table, Read(nil), 0, api.ErrForm, 0)
	}
	for _, lengths := range one {
		symbol := slices.Index(lengths, 1)
		table := newTable(t, lengths)
		r := Read([]byte{0b11101000})
		checkNext(t, table, r, symbol, api.OK, 1)
		checkNext(t, table, r, symbol, api.OK, 2)
		checkNext(t, table, r, symbol, api.OK, 3)
		checkNext(t, table, r, 0, api.ErrForm, 4)
		checkNext(t, table, r, symbol, api.OK, 5)
		for at := 6; at <= 8; at++ {
			checkNext(t, table, r, 0, api.ErrForm, at)
		}
		for range 3 {
			checkNext(t, table, r, 0, api.ErrEnd, 8)
		}
		checkNext(t, table, Read(nil), 0, api.ErrEnd, 0)
	}
}

func TestTooManyLengths(t *testing.T) {
	for _, n := range []int{321, 322, 400, 512, 100000} {
		one := make([]int, n)
		one[n-1] = 1
		wrong := make([]int, n)
		wrong[0] = 16
		for _, l := range [][]int{make([]int, n), one, wrong, slices.Repeat([]int{1}, n), append(slices.Repeat([]int{8}, 256), make([]int, n-256)...)} {
			checkRefused(t, l, api.ErrArg)
		}
	}
	newTable(t, append(slices.Repeat([]int{8}, 256), make([]int, 64)...))
}

func TestWrongLengths(t *testing.T) {
	for _, wrong := range []int{-1, -2, -15, -16, math.MinInt, 16, 17, 31, 32, 64, 256, 1 << 32, 1<<32 + 1, math.MaxInt} {
		for _, l := range [][]int{{}, {1, 1}, {2, 1, 3, 3}, {1}, {0, 0}, {1, 1, 1}, {3}, fixed(), make([]int, 319)} {
			for _, at := range []int{0, len(l) / 2, len(l)} {
				checkRefused(t, slices.Insert(slices.Clone(l), at, wrong), api.ErrArg)
			}
		}
		checkRefused(t, []int{wrong, wrong}, api.ErrArg)
		checkRefused(t, slices.Repeat([]int{wrong}, 320), api.ErrArg)
	}
}

// TestTooManyOrTooFewCodes takes rows that may be and makes one length
// another one.
func TestTooManyOrTooFewCodes(t *testing.T) {
	for _, lengths := range allowed() {
		for _, at := range []int{0, len(lengths) / 2, len(lengths) - 1} {
			for other := range 16 {
				changed := slices.Clone(lengths)
				changed[at] = other
				if other == lengths[at] || len(lengths) == 2 && other == 0 {
					continue // one code of length 1 is left of two
				}
				checkRefused(t, changed, api.ErrForm)
			}
		}
	}
}

func TestOtherFewCodes(t *testing.T) {
	for length := 2; length <= 15; length++ {
		checkRefused(t, []int{length}, api.ErrForm)
		checkRefused(t, []int{0, 0, length, 0}, api.ErrForm)
		checkRefused(t, []int{1, length}, api.ErrForm)
		checkRefused(t, []int{1, 1, length}, api.ErrForm)
		checkRefused(t, append(slices.Repeat([]int{length}, min(1<<length, 320)-1), 0), api.ErrForm)
		if 1<<length <= 319 {
			newTable(t, slices.Repeat([]int{length}, 1<<length))
			checkRefused(t, slices.Repeat([]int{length}, 1<<length+1), api.ErrForm)
		}
	}
	checkRefused(t, []int{1, 1, 1}, api.ErrForm)
	checkRefused(t, slices.Repeat([]int{1}, 320), api.ErrForm)
	checkRefused(t, slices.Repeat([]int{15}, 320), api.ErrForm)
	for _, x := range [][]int{{1, 2}, {2, 2, 2}, {2, 2}, {1, 3, 3}, {1, 2, 3}, {1, 2, 15}} {
		checkRefused(t, x, api.ErrForm)
	}
}

// TestAllShortLists asks for all lists of up to five lengths from 0 to 5.
func TestAllShortLists(t *testing.T) {
	for n := range 6 {
		many := 1
		for range n {
			many *= 6
		}
		for number := range many {
			lengths := make([]int, n)
			sum, codes := 0, 0
			for i := range lengths {
				lengths[i] = number % 6
				number /= 6
				if lengths[i] > 0 {
					sum += 32 >> lengths[i]
					codes++
				}
			}
			if sum == 32 || codes == 0 || codes == 1 && sum == 16 {
				newTable(t, lengths)
			} else {
				checkRefused(t, lengths, api.ErrForm)
			}
		}
	}
}

func TestEachCodeAlone(t *testing.T) {
	for _, lengths := range allowed() {
		table := newTable(t, lengths)
		for symbol, text := range treeCodes(lengths) {
			if text == "" {
				continue
			}
			for _, behind := range []string{"", "0", "1", "10110111", "00000000000000000", "11111111111111111"} {
				checkNext(t, table, Read(pack(text+behind)), symbol, api.OK, len(text))
			}
		}
	}
}

// TestBitsThatEnd has the bits end in each code, behind other bits.
func TestBitsThatEnd(t *testing.T) {
	for _, lengths := range [][]int{{1, 1}, {2, 1, 3, 3}, stair(15), fixed(), {2, 2, 2, 2}} {
		table := newTable(t, lengths)
		for _, text := range treeCodes(lengths) {
			for n := range len(text) {
				ahead := strings.Repeat("1", (16-n)%8)
				r := Read(pack(ahead + text[:n]))
				r.Take(len(ahead))
				for range 2 {
					checkNext(t, table, r, 0, api.ErrEnd, len(ahead)+n)
				}
				if _, ok := r.Take(1); ok {
					t.Fatal("a bit behind the end")
				}
			}
		}
	}
}

func TestNilTable(t *testing.T) {
	var table *Table
	for _, b := range [][]byte{nil, {0}, {1, 2, 3}} {
		r := Read(b)
		checkNext(t, table, r, 0, api.ErrArg, 0)
	}
	if got, e := table.Next(nil); got != 0 || e != api.ErrArg {
		t.Errorf("Next of nothing at all is %d, %d", got, e)
	}
	table = newTable(t, []int{1, 1})
	if got, e := table.Next(nil); got != 0 || e != api.ErrArg {
		t.Errorf("Next of no reader is %d, %d", got, e)
	}
}

func TestTablesShareNothing(t *testing.T) {
	lengths := []int{2, 1, 3, 3}
	kept := slices.Clone(lengths)
	table, codes := newTable(t, lengths), func() []int { l, _ := Codes(lengths); return l }()
	if !slices.Equal(lengths, kept) {
		t.Fatal("lengths that were handed in are others")
	}
	newTable(t, []int{1, 1})
	clear(lengths)
	again, _ := Codes(kept)
	clear(again)
	if !slices.Equal(codes, []int{2, 0, 6, 7}) {
		t.Errorf("the codes became %v", codes)
	}
	clear(codes)
	r := Read(pack("100110111"))
	for i, want := range []int{0, 1, 2, 3} {
		checkNext(t, table, r, want, api.OK, []int{2, 3, 6, 9}[i])
	}
}

// TestTwoTablesOneReader has two tables take turns, with bits between.
func TestTwoTablesOneReader(t *testing.T) {
	a, b := newTable(t, []int{2, 1, 3, 3}), newTable(t, []int{0, 0, 0, 0, 0, 1, 1})
	r := Read(pack("110" + "1" + "001" + "10" + "0" + "0"))
	checkNext(t, a, r, 2, api.OK, 3)
	checkNext(t, b, r, 6, api.OK, 4)
	checkTake(t, "between", r, 3, 4, true)
	checkNext(t, a, r, 0, api.OK, 9)
	checkNext(t, b, r, 5, api.OK, 10)
	checkNext(t, a, r, 1, api.OK, 11)
	checkAt(t, "behind all", r, 2)
}

// 14.3

func TestNoCodeBeginsAnother(t *testing.T) {
	_, one := hollow()
	for _, lengths := range append(allowed(), one...) {
		codes, _ := Codes(lengths)
		var texts []string
		for symbol, length := range lengths {
			if length > 0 {
				text := strconv.FormatInt(int64(codes[symbol]), 2)
				if len(text) > length {
					t.Fatalf("the code %b of length %d", codes[symbol], length)
				}
				texts = append(texts, strings.Repeat("0", length-len(text))+text)
			}
		}
		slices.Sort(texts)
		for i := 1; i < len(texts); i++ {
			if strings.HasPrefix(texts[i], texts[i-1]) {
				t.Fatalf("of %v the code %s begins %s", lengths, texts[i-1], texts[i])
			}
		}
	}
}

// TestRowsOfSymbols puts bits together of the codes that Codes tells.
func TestRowsOfSymbols(t *testing.T) {
	c := chance(11)
	for _, lengths := range allowed() {
		table := newTable(t, lengths)
		codes, _ := Codes(lengths)
		var symbols, ends []int
		var text strings.Builder
		for range 300 {
			symbol := c.below(len(lengths))
			for lengths[symbol] == 0 {
				symbol = c.below(len(lengths))
			}
			for k := lengths[symbol] - 1; k >= 0; k-- {
				text.WriteByte('0' + byte(codes[symbol]>>k&1))
			}
			symbols, ends = append(symbols, symbol), append(ends, text.Len())
		}
		r := Read(pack(text.String()))
		for i, symbol := range symbols {
			checkNext(t, table, r, symbol, api.OK, ends[i])
		}
	}
}
