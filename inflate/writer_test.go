package inflate

import (
	"slices"
	"strings"
)

// writer is bits as signs 0 and 1, put one behind the other.
type writer struct {
	text               strings.Builder
	symbols, distances []string // codes of the block
}

// bytes are the signs, the first one the lowest bit of the first byte.
func (w *writer) bytes() []byte {
	text := w.text.String()
	b := make([]byte, (len(text)+7)/8)
	for i := range len(text) {
		b[i/8] += (text[i] - '0') << (i % 8)
	}
	return b
}

// number puts n bits of v, the lowest first.
func (w *writer) number(v, n int) *writer {
	for k := range n {
		w.text.WriteByte('0' + byte(v>>k&1))
	}
	return w
}

func (w *writer) signs(s string) *writer {
	w.text.WriteString(s)
	return w
}

// head puts the three bits that a block begins with.
func (w *writer) head(last bool, kind int) *writer {
	if last {
		return w.number(1, 1).number(kind, 2)
	}
	return w.number(0, 1).number(kind, 2)
}

// pad puts bits up to the next whole byte; they play no part, so some are 1.
func (w *writer) pad() *writer {
	for k := 0; w.text.Len()%8 != 0; k++ {
		w.number(k%2^1, 1)
	}
	return w
}

// stored puts a block of Kind 0.
func (w *writer) stored(last bool, b []byte) *writer {
	w.head(last, 0).pad().number(len(b), 16).number(^len(b), 16)
	for _, v := range b {
		w.number(int(v), 8)
	}
	return w
}

// fixed begins a block of Kind 1.
func (w *writer) fixed(last bool) *writer {
	symbols, distances := fixedLengths()
	w.symbols, w.distances = treeCodes(symbols), treeCodes(distances)
	return w.head(last, 1)
}

// begin puts what a block of Kind 2 begins with, up to the lengths of lengths,
// which are all told.
func (w *writer) begin(last bool, symbols, distances int, lengths []int) *writer {
	w.head(last, 2).number(symbols-257, 5).number(distances-1, 5).number(15, 4)
	for _, k := range toldOrder {
		w.number(lengths[k], 3)
	}
	return w
}

// plain are lengths of lengths of which each has a code.
func plain() []int {
	return append(slices.Repeat([]int{4}, 13), slices.Repeat([]int{5}, 6)...)
}

// run is a symbol by which lengths are told, and what its bits more say.
type run struct{ symbol, more int }

// runs puts a row of lengths by codes that have lengths by.
func (w *writer) runs(by []int, l ...run) *writer {
	codes := treeCodes(by)
	for _, x := range l {
		w.signs(codes[x.symbol])
		switch x.symbol {
		case 16:
			w.number(x.more, 2)
		case 17:
			w.number(x.more, 3)
		case 18:
			w.number(x.more, 7)
		}
	}
	return w
}

// each are lengths that are told by themselves.
func each(lengths ...int) []run {
	var l []run
	for _, length := range lengths {
		l = append(l, run{length, 0})
	}
	return l
}

// zeros are n lengths of 0, told by themselves.
func zeros(n int) []run {
	return each(make([]int, n)...)
}

// told begins a block of Kind 2, with each length told by itself.
func (w *writer) told(last bool, symbols, distances []int) *writer {
	w.begin(last, len(symbols), len(distances), plain())
	return w.runs(plain(), each(slices.Concat(symbols, distances)...)...).by(symbols, distances)
}

// just are n lengths of which those of symbols are just enough (one: of 1),
// and all others 0.
func just(n int, symbols ...int) []int {
	lengths := make([]int, n)
	short := 0
	for 2<<short <= len(symbols) {
		short++
	}
	for i, symbol := range symbols {
		lengths[symbol] = short
		if i < 2*(len(symbols)-1<<short) || len(symbols) == 1 {
			lengths[symbol]++
		}
	}
	return lengths
}

// by has the symbols that are put from here on be those of lengths.
func (w *writer) by(symbols, distances []int) *writer {
	w.symbols, w.distances = treeCodes(symbols), treeCodes(distances)
	return w
}

// put puts symbols that have no more bits.
func (w *writer) put(symbols ...int) *writer {
	for _, symbol := range symbols {
		w.signs(w.symbols[symbol])
	}
	return w
}

// literals puts bytes, one symbol each.
func (w *writer) literals(b []byte) *writer {
	for _, v := range b {
		w.put(int(v))
	}
	return w
}

// place is the last symbol whose numbers go on from v, or from below it.
func place(from []int, v int) int {
	at, found := slices.BinarySearch(from, v)
	if !found {
		at--
	}
	return at
}

func (w *writer) length(v int) *writer {
	k := place(lengthFrom, v)
	return w.put(257+k).number(v-lengthFrom[k], lengthBits[k])
}

func (w *writer) distance(v int) *writer {
	k := place(distanceFrom, v)
	return w.signs(w.distances[k]).number(v-distanceFrom[k], distanceBits[k])
}

// back puts a copy.
func (w *writer) back(length, distance int) *writer {
	return w.length(length).distance(distance)
}

// end ends a block that has symbols.
func (w *writer) end() *writer {
	return w.put(256)
}
