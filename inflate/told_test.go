package inflate

import (
	"slices"
	"testing"

	"squeal/api"
)

func TestKind2WrittenOut(t *testing.T) {
	// Of 257 and 1 lengths all but three are 0: 1 of the symbols 97 and 256,
	// and of the distance. They are told by the codes of 1 and 18, one bit each.
	w := new(writer).head(true, 2).number(0, 5).number(0, 5).number(14, 4)
	for _, v := range []int{0, 0, 1, 0, 0, 0, 0, 0, 0, 0, 0, 0, 0, 0, 0, 0, 0, 1} {
		w.number(v, 3)
	}
	w.signs("1").number(97-11, 7).signs("0").signs("1").number(138-11, 7).signs("1").number(20-11, 7).signs("0").signs("0")
	w.signs("0").signs("0").signs("1")
	checkWhole(t, "written out", w.bytes(), []byte("aa"))
}

func TestHowManyLengths(t *testing.T) {
	for symbols := 257; symbols <= 288; symbols++ {
		for distances := 1; distances <= 32; distances++ {
			if symbols > 286 || distances > 30 {
				checkForm(t, "too many", new(writer).begin(true, symbols, distances, plain()), 0)
				continue
			}
			s, d := just(symbols, 7, 256, symbols-1), just(distances, distances-1)
			if symbols == 257 {
				s = just(symbols, 7, 256)
			}
			w := new(writer).told(true, s, d).put(7, 7, 256)
			checkWhole(t, "as many as may be", w.bytes(), []byte{7, 7})
		}
	}
}

// TestTooManyLengthsAtOnce has it be wrong as soon as the five bits are read.
func TestTooManyLengthsAtOnce(t *testing.T) {
	for _, symbols := range []int{287, 288} {
		b := new(writer).head(true, 2).number(symbols-257, 5).bytes()
		checkWrong(t, "symbols", b[:1], 0, api.ErrForm)
	}
	checkWrong(t, "as many symbols as may be", new(writer).head(true, 2).number(29, 5).bytes()[:1], 0, api.ErrEnd)
	for _, distances := range []int{31, 32} {
		b := new(writer).head(true, 2).number(29, 5).number(distances-1, 5).bytes()
		checkWrong(t, "distances", b[:2], 0, api.ErrForm)
	}
	checkWrong(t, "as many distances as may be", new(writer).head(true, 2).number(29, 5).number(29, 5).bytes()[:2], 0, api.ErrEnd)
}

// TestHowManyLengthsOfLengths tells each number of them that can be; in each
// the last one that is told plays a part.
func TestHowManyLengthsOfLengths(t *testing.T) {
	for many := 5; many <= 19; many++ {
		length := toldOrder[many-1]
		n := 1 << min(length, 8) // codes, also that of 256
		lengths := append(slices.Repeat([]int{min(length, 8)}, n-1), make([]int, 257-n)...)
		if length > 8 { // codes of 8, then of one bit more each
			lengths = slices.Repeat([]int{8}, 255)
			for k := 9; k <= length; k++ {
				lengths = append(lengths, k)
			}
		}
		lengths = append(lengths, length)
		by := just(19, toldOrder[3:many]...)
		w := new(writer).head(true, 2).number(len(lengths)-257, 5).number(0, 5).number(many-4, 4)
		for _, k := range toldOrder[:many] {
			w.number(by[k], 3)
		}
		w.runs(by, each(lengths...)...).runs(by, each(0)...).by(lengths, nil)
		checkWhole(t, "lengths of lengths", w.put(0, 0, 256).bytes(), []byte{0, 0})
	}
	w := new(writer).head(true, 2).number(0, 5).number(0, 5).number(0, 4)
	for _, v := range []int{0, 0, 1, 1} { // 18 and 0
		w.number(v, 3)
	}
	w.signs("1").number(127, 7).signs("1").number(118-11, 7).signs("0").signs("0")
	checkForm(t, "four, so that all lengths are 0", w, 0)
}

func TestLengthsOfLengthsThatMayNotBe(t *testing.T) {
	for k := range 19 {
		for other := range 8 {
			l := plain()
			if l[k] != other {
				l[k] = other
				checkForm(t, "not just enough", new(writer).begin(true, 257, 1, l), 0)
			}
		}
		for length := 2; length < 8; length++ {
			l := make([]int, 19)
			l[k] = length
			checkForm(t, "one that is longer", new(writer).begin(true, 257, 1, l), 0)
		}
	}
	w := new(writer).begin(true, 257, 1, slices.Repeat([]int{1}, 19))
	checkForm(t, "all of length 1", w, 0)
	checkWrong(t, "all but the last one", w.bytes()[:8], 0, api.ErrEnd)
}

// TestLengthsByOneCodeOrNone has lengths be told by no code, or by just one:
// then all of them are alike, and so may not be, but not ahead of their end.
func TestLengthsByOneCodeOrNone(t *testing.T) {
	checkForm(t, "none", new(writer).begin(true, 257, 1, make([]int, 19)), 0)
	for k := range 19 {
		by := make([]int, 19)
		by[k] = 1
		checkForm(t, "no code", new(writer).begin(true, 257, 1, by).signs("1"), 0)
		if k < 16 {
			w := new(writer).begin(true, 257, 1, by).runs(by, each(slices.Repeat([]int{k}, 258)...)...)
			checkForm(t, "all alike", w, 0)
			checkWrong(t, "all alike, cut short", w.bytes()[:len(w.bytes())-1], 0, api.ErrEnd)
		}
	}
}

// TestRepeats has each repeat with each number of its bits stand between two
// lengths of 2, which are those of symbols that are put then.
func TestRepeats(t *testing.T) {
	for more := range 4 {
		row := slices.Concat(each(3), []run{{16, more}}, zeros(5), each(slices.Repeat([]int{3}, 3-more)...), zeros(256-12), each(3, 0))
		symbols := append([]int{0, 1, 2, 3}, 256)
		for i := range more {
			symbols = append(symbols, 4+i)
		}
		for i := range 3 - more {
			symbols = append(symbols, 9+more+i)
		}
		checkRepeat(t, "16", row, symbols)
	}
	for more := range 8 {
		at := 1 + 3 + more
		checkRepeat(t, "17", slices.Concat(each(2), []run{{17, more}}, each(2, 2), zeros(256-at-2), each(2, 0)), []int{0, at, at + 1, 256})
	}
	for more := range 128 {
		at := 1 + 11 + more
		checkRepeat(t, "18", slices.Concat(each(2), []run{{18, more}}, each(2, 2), zeros(256-at-2), each(2, 0)), []int{0, at, at + 1, 256})
	}
}

// checkRepeat has a row be lengths by which just these symbols have codes, and
// of no distance.
func checkRepeat(t *testing.T, what string, row []run, symbols []int) {
	t.Helper()
	w := new(writer).begin(true, 257, 1, plain()).runs(plain(), row...).by(just(257, symbols...), nil)
	var want []byte
	for _, symbol := range symbols {
		if symbol != 256 {
			w.put(symbol)
			want = append(want, byte(symbol))
		}
	}
	checkWhole(t, what, w.end().bytes(), want)
}

func TestRepeatBehindARepeat(t *testing.T) {
	// 16 repeats what is ahead, also what a repeat put there.
	for _, x := range []struct {
		ahead []run
		n     int
	}{{each(0), 1}, {[]run{{17, 2}}, 5}, {[]run{{18, 4}}, 15}, {[]run{{17, 0}, {16, 3}}, 9}, {each(0, 0, 0), 3}} {
		at := x.n + 3
		row := slices.Concat(x.ahead, []run{{16, 0}}, each(1), zeros(256-at-1), each(1, 0))
		checkRepeat(t, "zeros", row, []int{at, 256})
	}
	row := slices.Concat(each(4), []run{{16, 3}, {16, 3}}, zeros(256-13), each(4, 0))
	w := new(writer).begin(true, 257, 1, plain()).runs(plain(), row...)
	checkForm(t, "fourteen codes of 4", w, 0)
	row = slices.Concat(each(4), []run{{16, 3}, {16, 3}}, each(4, 4), zeros(256-15), each(4, 0))
	checkRepeat(t, "sixteen codes of 4", row, []int{0, 1, 2, 3, 4, 5, 6, 7, 8, 9, 10, 11, 12, 13, 14, 256})
}

// TestRepeatsOverTheBorder has repeats go on from symbols to distances.
func TestRepeatsOverTheBorder(t *testing.T) {
	row := slices.Concat(zeros(254), each(2), []run{{16, 0}, {16, 1}})
	w := new(writer).begin(true, 258, 4, plain()).runs(plain(), row...).by(just(258, 254, 255, 256, 257), just(4, 0, 1, 2, 3))
	w.put(254, 255).back(3, 2).back(3, 4).end()
	checkWhole(t, "16", w.bytes(), copied(copied([]byte{254, 255}, 3, 2), 3, 4))

	row = slices.Concat(zeros(9), each(1), zeros(246), each(1), []run{{17, 4}}, each(1, 1))
	w = new(writer).begin(true, 260, 6, plain()).runs(plain(), row...).by(just(260, 9, 256), just(6, 4, 5))
	checkWhole(t, "17", w.put(9, 9, 256).bytes(), []byte{9, 9})

	row = slices.Concat(zeros(9), each(1), zeros(246), each(1), []run{{18, 40}})
	w = new(writer).begin(true, 286, 22, plain()).runs(plain(), row...).by(just(286, 9, 256), just(22))
	checkWhole(t, "18", w.put(9, 9, 256).bytes(), []byte{9, 9})
}

// TestRowsThatAreTooLong has repeats end where the row does, or behind it.
func TestRowsThatAreTooLong(t *testing.T) {
	begin := append(zeros(255), each(1, 1)...) // of the symbols 255 and 256
	for _, kind := range []struct{ symbol, least, most int }{{16, 3, 6}, {17, 3, 10}, {18, 11, 138}} {
		for left := 1; left <= 29; left++ {
			for times := kind.least; times <= kind.most; times++ {
				row := slices.Concat(begin, each(0), []run{{kind.symbol, times - kind.least}})
				w := new(writer).begin(true, 257, 1+left, plain()).runs(plain(), row...).by(just(257, 255, 256), nil)
				if times > left {
					checkForm(t, "too long", w, 0)
				} else if times == left {
					checkWhole(t, "up to the end", w.put(255).end().bytes(), []byte{255})
				}
			}
		}
	}
	w := new(writer).begin(true, 286, 30, plain()).runs(plain(), run{18, 127}, run{18, 127}, run{18, 30})
	checkForm(t, "too long by one", w, 0)
}

func Test16First(t *testing.T) {
	for more := range 4 {
		checkForm(t, "16 first", new(writer).begin(true, 257, 1, plain()).runs(plain(), run{16, more}), 0)
	}
	w := new(writer).begin(true, 257, 1, plain()).signs(treeCodes(plain())[16])
	if w.text.Len() != 79 {
		t.Fatal("the test's own bits are", w.text.Len())
	}
	// One bit is left, of the two that it would have.
	checkWrong(t, "16 first", w.bytes(), 0, api.ErrForm)
}

func TestSymbol256WithoutALength(t *testing.T) {
	for _, symbols := range [][]int{just(257, 1, 2), just(257, 255), just(257), just(280, 257, 279), just(286, 255, 257, 258)} {
		for _, distances := range [][]int{just(1), just(30, 1, 2), {1}} {
			checkForm(t, "no length of 256", new(writer).told(true, symbols, distances), 0)
		}
	}
}

func TestRowsThatMayNotBe(t *testing.T) {
	symbols, distances := just(280, 1, 2, 3, 256, 270), just(20, 1, 2, 3, 4, 5, 6)
	for _, at := range []int{0, 1, 3, 255, 256, 257, 270, 279} {
		for other := range 16 {
			if l := slices.Clone(symbols); l[at] != other {
				l[at] = other
				checkForm(t, "symbols", new(writer).told(true, l, distances), 0)
			}
		}
	}
	for at := range distances {
		for other := range 16 {
			if l := slices.Clone(distances); l[at] != other {
				l[at] = other
				checkForm(t, "distances", new(writer).told(true, symbols, l), 0)
			}
		}
	}
	for length := 2; length < 16; length++ {
		alone := make([]int, 257)
		alone[256] = length
		checkForm(t, "one symbol that is longer", new(writer).told(true, alone, []int{0}), 0)
		checkForm(t, "one distance that is longer", new(writer).told(true, symbols, []int{length}), 0)
	}
}

func TestOneSymbolAlone(t *testing.T) {
	begin := func() *writer { return new(writer).told(true, just(257, 256), just(1)) }
	checkWhole(t, "the end", begin().end().bytes(), nil)
	checkForm(t, "no code", begin().signs("1"), 0)
}

func TestOneDistanceOrNone(t *testing.T) {
	for symbol := range 30 {
		n := distanceFrom[symbol] + 1<<distanceBits[symbol] - 1
		begin := func() *writer {
			return new(writer).stored(false, rule(symbol, n)).told(true, just(286, 0, 256, 259, 285), just(symbol+1, symbol))
		}
		want := copied(copied(rule(symbol, n), 5, n), 258, distanceFrom[symbol])
		checkWhole(t, "one distance", begin().back(5, n).back(258, distanceFrom[symbol]).end().bytes(), want)
		checkForm(t, "no code", begin().length(5).signs("1"), n)
	}
	for distances := 1; distances <= 30; distances++ {
		begin := func() *writer {
			return new(writer).told(true, just(286, 0, 256, 257, 285), just(distances))
		}
		checkWhole(t, "no copy", begin().put(0, 0, 0, 256).bytes(), []byte{0, 0, 0})
		checkForm(t, "no distance", begin().put(0).length(3), 1)
		checkForm(t, "no distance", begin().put(0).length(258), 1)
	}
}

// TestNoDistanceAtTheEnd has no bits be left where a distance should be that
// has no codes: that there is none is so ahead of any bit.
func TestNoDistanceAtTheEnd(t *testing.T) {
	for n := range 8 {
		w := new(writer).told(true, just(258, 256, 257, 0), just(1)).put(slices.Repeat([]int{0}, 1+n)...).length(3)
		if w.text.Len()%8 == 0 {
			checkWrong(t, "nothing behind", w.bytes(), 9, api.ErrForm)
			return
		}
	}
	t.Fatal("none of these ends at a whole byte")
}

// TestLongCodes has codes of each length up to 15.
func TestLongCodes(t *testing.T) {
	symbols, distances := make([]int, 286), make([]int, 30)
	for k := range 15 {
		symbols[17*k] = k + 1
		distances[2*k] = 15 - k
	}
	symbols[285], distances[29] = 15, 15
	symbols[17*14], symbols[256] = 0, 15
	want := rule(1, 30000)
	w := new(writer).stored(false, want).told(true, symbols, distances)
	for k := range 14 {
		w.put(17*k).back(258, distanceFrom[2*k])
		want = copied(append(want, byte(17*k)), 258, distanceFrom[2*k])
	}
	w.back(258, 24577+5000)
	want = copied(want, 258, 24577+5000)
	checkWhole(t, "codes", w.end().bytes(), want)
}
