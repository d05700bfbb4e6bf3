package inflate

import (
	"slices"

	"squeal/api"
)

// chance is a row of numbers by a short rule.
type chance uint64

// below is the next number, from 0 to n - 1.
func (c *chance) below(n int) int {
	*c = *c*6364136223846793005 + 1442695040888963407
	return int(uint64(*c)>>33) % n
}

// The lengths and distances as tables: from where each symbol's go on, and how
// many bits more it has.
var (
	lengthFrom   = []int{3, 4, 5, 6, 7, 8, 9, 10, 11, 13, 15, 17, 19, 23, 27, 31, 35, 43, 51, 59, 67, 83, 99, 115, 131, 163, 195, 227, 258}
	lengthBits   = []int{0, 0, 0, 0, 0, 0, 0, 0, 1, 1, 1, 1, 2, 2, 2, 2, 3, 3, 3, 3, 4, 4, 4, 4, 5, 5, 5, 5, 0}
	distanceFrom = []int{1, 2, 3, 4, 5, 7, 9, 13, 17, 25, 33, 49, 65, 97, 129, 193, 257, 385, 513, 769, 1025, 1537, 2049, 3073, 4097, 6145, 8193, 12289, 16385, 24577}
	distanceBits = []int{0, 0, 0, 0, 1, 1, 2, 2, 3, 3, 4, 4, 5, 5, 6, 6, 7, 7, 8, 8, 9, 9, 10, 10, 11, 11, 12, 12, 13, 13}
	toldOrder    = []int{16, 17, 18, 0, 8, 7, 9, 6, 10, 5, 11, 4, 12, 3, 13, 2, 14, 1, 15}
)

// fixedLengths are those of Kind 1.
func fixedLengths() (symbols, distances []int) {
	symbols = slices.Concat(slices.Repeat([]int{8}, 144), slices.Repeat([]int{9}, 112), slices.Repeat([]int{7}, 24), slices.Repeat([]int{8}, 8))
	return symbols, slices.Repeat([]int{5}, 32)
}

// treeCodes is the code of each symbol as signs 0 and 1, the first bit first:
// a tree is gone through from the left, and a place in it becomes the code of
// the next symbol that is as long.
func treeCodes(lengths []int) []string {
	type place struct{ length, symbol int }
	var order []place
	for symbol, length := range lengths {
		if length > 0 {
			order = append(order, place{length, symbol})
		}
	}
	slices.SortStableFunc(order, func(a, b place) int { return a.length - b.length })
	codes := make([]string, len(lengths))
	var walk func(text string)
	walk = func(text string) {
		if len(order) == 0 || len(text) > 15 {
			return
		}
		if order[0].length == len(text) {
			codes[order[0].symbol] = text
			order = order[1:]
			return
		}
		walk(text + "0")
		walk(text + "1")
	}
	walk("")
	return codes
}

// mayBe is whether lengths are just enough, or none, or one of length 1.
func mayBe(lengths []int) bool {
	sum, many := 0, 0
	for _, length := range lengths {
		if length > 0 {
			sum += 32768 >> length
			many++
		}
	}
	return sum == 32768 || many == 0 || many == 1 && sum == 16384
}

// book is codes by their signs, and all that they begin with.
type book struct {
	symbols map[string]int
	begins  map[string]bool
}

func newBook(lengths []int) book {
	b := book{map[string]int{}, map[string]bool{}}
	for symbol, text := range treeCodes(lengths) {
		if text == "" {
			continue
		}
		b.symbols[text] = symbol
		for n := range len(text) + 1 {
			b.begins[text[:n]] = true
		}
	}
	return b
}

// model unpacks bits one by one, in one go; what goes wrong is a panic.
type model struct {
	bits  []byte
	at    int
	out   []byte
	limit int
}

func (m *model) bit() int {
	if m.at == len(m.bits) {
		panic(api.ErrEnd)
	}
	m.at++
	return int(m.bits[m.at-1])
}

func (m *model) number(n int) int {
	v := 0
	for k := range n {
		v += m.bit() * (1 << k)
	}
	return v
}

func (m *model) symbol(b book) int {
	text := ""
	for {
		if !b.begins[text] {
			panic(api.ErrForm)
		}
		if symbol, ok := b.symbols[text]; ok {
			return symbol
		}
		text += string(rune('0' + m.bit()))
	}
}

func (m *model) form(wrong bool) {
	if wrong {
		panic(api.ErrForm)
	}
}

func (m *model) put(b byte) {
	if len(m.out) == m.limit {
		panic(api.ErrLong)
	}
	m.out = append(m.out, b)
}

func (m *model) stored() {
	for m.at%8 != 0 {
		m.bit()
	}
	n := m.number(16)
	turned := m.number(16)
	m.form(n+turned != 65535 || n&turned != 0)
	if len(m.out)+n > m.limit {
		panic(api.ErrLong)
	}
	for range n {
		m.put(byte(m.number(8)))
	}
}

func (m *model) books() (book, book) {
	symbols := m.number(5) + 257
	m.form(symbols > 286)
	distances := m.number(5) + 1
	m.form(distances > 30)
	lengths := make([]int, 19)
	for i := range m.number(4) + 4 {
		lengths[toldOrder[i]] = m.number(3)
	}
	m.form(!mayBe(lengths))
	b := newBook(lengths)
	var row []int
	for len(row) < symbols+distances {
		switch symbol := m.symbol(b); symbol {
		case 16:
			m.form(len(row) == 0)
			row = append(row, slices.Repeat(row[len(row)-1:], 3+m.number(2))...)
		case 17:
			row = append(row, make([]int, 3+m.number(3))...)
		case 18:
			row = append(row, make([]int, 11+m.number(7))...)
		default:
			row = append(row, symbol)
		}
		m.form(len(row) > symbols+distances)
	}
	m.form(row[256] == 0 || !mayBe(row[:symbols]) || !mayBe(row[symbols:]))
	return newBook(row[:symbols]), newBook(row[symbols:])
}

func (m *model) coded(symbols, distances book) {
	for {
		symbol := m.symbol(symbols)
		if symbol == 256 {
			return
		}
		if symbol < 256 {
			m.put(byte(symbol))
			continue
		}
		m.form(symbol > 285)
		length := lengthFrom[symbol-257] + m.number(lengthBits[symbol-257])
		symbol = m.symbol(distances)
		m.form(symbol > 29)
		distance := distanceFrom[symbol] + m.number(distanceBits[symbol])
		m.form(distance > len(m.out))
		for range length {
			m.put(m.out[len(m.out)-distance])
		}
	}
}

// modeller has the books of Kind 1, which take long to make.
type modeller struct{ symbols, distances book }

func newModeller() *modeller {
	symbols, distances := fixedLengths()
	return &modeller{newBook(symbols), newBook(distances)}
}

// inflate is what Inflate is to answer.
func (x *modeller) inflate(b []byte, limit int) (out []byte, n int, e api.Errno) {
	if limit < 0 || limit > 1048576 {
		return nil, 0, api.ErrArg
	}
	m := &model{limit: limit}
	for _, v := range b {
		for k := range 8 {
			m.bits = append(m.bits, v>>k&1)
		}
	}
	defer func() {
		if r := recover(); r != nil {
			out, n, e = nil, 0, r.(api.Errno)
		}
	}()
	for last := 0; last == 0; {
		last = m.bit()
		switch m.number(2) {
		case 0:
			m.stored()
		case 1:
			m.coded(x.symbols, x.distances)
		case 2:
			m.coded(m.books())
		default:
			m.form(true)
		}
	}
	return m.out, (m.at + 7) / 8, api.OK
}
