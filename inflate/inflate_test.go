package inflate

import (
	"bytes"
	"math"
	"slices"
	"testing"

	"squeal/api"
)

// rule is n bytes by a short rule that begins with seed.
func rule(seed, n int) []byte {
	l := make([]byte, n)
	c := chance(seed)
	for i := range l {
		l[i] = byte(c.below(256))
	}
	return l
}

func check(t *testing.T, what string, b []byte, limit int, want []byte, wantN int, wantE api.Errno) {
	t.Helper()
	kept := slices.Clone(b)
	got, n, e := Inflate(b, limit)
	if !bytes.Equal(got, want) || n != wantN || e != wantE {
		t.Fatalf("%s: Inflate of %d bytes, %d at most, is %d bytes (right: %v), %d, %d, not %d bytes, %d, %d", what, len(b), limit, len(got), bytes.Equal(got, want), n, e, len(want), wantN, wantE)
	}
	if !bytes.Equal(b, kept) {
		t.Fatalf("%s: what was handed in is changed", what)
	}
}

func checkWrong(t *testing.T, what string, b []byte, limit int, want api.Errno) {
	t.Helper()
	check(t, what, b, limit, nil, 0, want)
}

// checkForm has what w has be wrong, with the limit and with the greatest one,
// and whatever stands behind. It has to be so as soon as it is read.
func checkForm(t *testing.T, what string, w *writer, limit int) {
	t.Helper()
	b := w.bytes()
	for _, behind := range [][]byte{nil, {0}, {255, 255, 255}, make([]byte, 400)} {
		checkWrong(t, what, slices.Concat(b, behind), limit, api.ErrForm)
		checkWrong(t, what, slices.Concat(b, behind), api.MaxOut, api.ErrForm)
	}
}

// checkWhole has want be what all of b unpacks to: with any limit that is
// enough, with none that isn't, whatever stands behind, and not cut short.
func checkWhole(t *testing.T, what string, b, want []byte) {
	t.Helper()
	check(t, what, b, len(want), want, len(b), api.OK)
	check(t, what, b, api.MaxOut, want, len(b), api.OK)
	for _, behind := range [][]byte{{0}, {255}, {7, 1, 2, 3}, b} {
		check(t, what+", with more behind", slices.Concat(b, behind), len(want), want, len(b), api.OK)
	}
	for _, limit := range some(len(want)) {
		checkWrong(t, what+", with a limit below", b, limit, api.ErrLong)
	}
	for _, n := range some(len(b)) {
		checkWrong(t, what+", cut short", b[:n], api.MaxOut, api.ErrEnd)
	}
}

// some are numbers from 0 to n - 1: all, if these are few, else both ends of
// them and a few between.
func some(n int) []int {
	var l []int
	for i := 0; i < n; i++ {
		l = append(l, i)
		if n > 100 && i > 10 && i < n-10 {
			i = min(i+n/16, n-10)
		}
	}
	return l
}

// copied is b, and behind it so many bytes from so far back.
func copied(b []byte, length, distance int) []byte {
	b = slices.Clone(b)
	for range length {
		b = append(b, b[len(b)-distance])
	}
	return b
}

// 15.1

func TestWrittenOut(t *testing.T) {
	for _, x := range []struct {
		packed []byte
		want   string
	}{
		{[]byte{0x4b, 0x04, 0x00}, "a"},
		{[]byte{0x03, 0x00}, ""},
		{[]byte{0x4b, 0x4c, 0x4a, 0x06, 0x00}, "abc"},
		{[]byte{0x4b, 0x84, 0x03, 0x00}, "aaaaaaaaaa"},
		{[]byte{0x01, 0x00, 0x00, 0xff, 0xff}, ""},
		{[]byte{0x01, 0x01, 0x00, 0xfe, 0xff, 0x61}, "a"},
		{[]byte{0x00, 0x02, 0x00, 0xfd, 0xff, 0x61, 0x62, 0x01, 0x01, 0x00, 0xfe, 0xff, 0x63}, "abc"},
		{[]byte{0xf8, 0x01, 0x00, 0xfe, 0xff, 0x61, 0xf9, 0x00, 0x00, 0xff, 0xff}, "a"},
	} {
		checkWhole(t, "written out", x.packed, []byte(x.want))
	}
}

func TestLimitThatMayNotBe(t *testing.T) {
	l := [][]byte{nil, {}, {6}, {0x4b, 4, 0}, {3, 0}, {1, 0, 0, 0, 0}}
	for _, limit := range []int{-1, -2, math.MinInt, math.MinInt + 1, -1 << 32, 1048577, 1048578, 1 << 32, math.MaxInt} {
		for _, b := range l {
			checkWrong(t, "a limit", b, limit, api.ErrArg)
		}
	}
	for _, limit := range []int{0, 1, 1048575, 1048576} {
		checkWrong(t, "nothing", nil, limit, api.ErrEnd)
		checkWrong(t, "Kind 3", []byte{6}, limit, api.ErrForm)
		check(t, "no bytes", []byte{3, 0}, limit, nil, 2, api.OK)
	}
}

func TestOneByte(t *testing.T) {
	for v := range 256 {
		want := api.ErrEnd
		if v>>1&3 == 3 || v>>1&3 == 2 && v>>3 >= 30 {
			want = api.ErrForm
		}
		checkWrong(t, "one byte", []byte{byte(v)}, 9, want)
	}
}

func TestKind3(t *testing.T) {
	for _, last := range []bool{false, true} {
		checkForm(t, "at first", new(writer).head(last, 3), 0)
		checkForm(t, "behind Kind 0", new(writer).stored(false, []byte("ab")).head(last, 3), 2)
		checkForm(t, "behind Kind 1", new(writer).fixed(false).put('a').end().head(last, 3), 1)
		checkForm(t, "behind Kind 2", new(writer).told(false, just(257, 5, 256), just(1, 0)).put(5).end().head(last, 3), 1)
		b := new(writer).fixed(true).put('a').end().head(last, 3).bytes()
		check(t, "behind the last one", b, 1, []byte("a"), 3, api.OK)
	}
}

func TestKind0(t *testing.T) {
	for _, n := range []int{0, 1, 2, 255, 256, 257, 4660, 32768, 65534, 65535} {
		checkWhole(t, "alone", new(writer).stored(true, rule(n, n)).bytes(), rule(n, n))
	}
	all := rule(1, 70000)
	w := new(writer).stored(false, all[:3]).stored(false, nil).stored(false, all[3:65003]).stored(true, all[65003:])
	checkWhole(t, "one behind the other", w.bytes(), all)
	for ahead := range 9 { // bytes of nine bits each, so that the block begins at each bit
		begin := bytes.Repeat([]byte{200}, ahead)
		w := new(writer).fixed(false).literals(begin).end().stored(false, []byte("ab")).fixed(true).put('c').end()
		checkWhole(t, "at each bit", w.bytes(), append(begin, "abc"...))
	}
}

func TestLengthThatIsNotItsTurnedOne(t *testing.T) {
	for _, n := range []int{0, 1, 2, 255, 4660, 65535} {
		for bit := range 16 {
			w := new(writer).head(true, 0).pad().number(n, 16).number(^n^1<<bit, 16)
			for _, limit := range []int{0, 1, n} {
				checkForm(t, "a bit that isn't turned", w, limit)
			}
		}
		checkForm(t, "the length once more", new(writer).head(true, 0).pad().number(n, 16).number(n, 16), 0)
	}
	checkForm(t, "in a later block", new(writer).stored(false, []byte("ab")).head(true, 0).pad().number(1, 16).number(1, 16), 2)
}

// TestLimitAtKind0 has the length be held against the limit as soon as its
// turned one is read, whether the bytes are there or not.
func TestLimitAtKind0(t *testing.T) {
	for _, ahead := range []int{0, 1, 5, 300} {
		for _, n := range []int{1, 2, 300, 65535} {
			b := new(writer).stored(false, rule(1, ahead)).stored(true, rule(2, n)).bytes()
			begin := 5 + ahead + 5
			for _, cut := range []int{begin, begin + 1, begin + n - 1, begin + n} {
				checkWrong(t, "too long", b[:cut], ahead, api.ErrLong)
				checkWrong(t, "too long by one", b[:cut], ahead+n-1, api.ErrLong)
			}
			for cut := begin - 5; cut < begin; cut++ {
				checkWrong(t, "without the lengths", b[:cut], ahead, api.ErrEnd)
			}
			checkWrong(t, "without the last byte", b[:begin+n-1], ahead+n, api.ErrEnd)
			checkWrong(t, "without any byte", b[:begin], ahead+n, api.ErrEnd)
		}
		full := new(writer).stored(false, rule(1, ahead)).stored(true, nil).bytes()
		check(t, "none at the limit", full, ahead, rule(1, ahead), ahead+10, api.OK)
	}
}

func TestEachByteOfKind1(t *testing.T) {
	var all []byte
	for v := range 256 {
		all = append(all, byte(v))
		checkWhole(t, "one byte", new(writer).fixed(true).put(v).end().bytes(), all[v:])
	}
	checkWhole(t, "all bytes", new(writer).fixed(true).literals(all).end().bytes(), all)
	w := new(writer)
	for range 5000 {
		w.fixed(false).end()
	}
	checkWhole(t, "many blocks", w.fixed(true).put('a').end().bytes(), []byte("a"))
}

func TestEachLength(t *testing.T) {
	for _, begin := range []string{"a", "ab", "abcdefg"} {
		for length := 3; length <= 258; length++ {
			for _, distance := range []int{1, len(begin)} {
				w := new(writer).fixed(true).literals([]byte(begin)).back(length, distance).put('!').end()
				checkWhole(t, "a length", w.bytes(), append(copied([]byte(begin), length, distance), '!'))
			}
		}
		w := new(writer).fixed(true).literals([]byte(begin)).put(284).number(31, 5).distance(1).end()
		checkWhole(t, "258 otherwise", w.bytes(), copied([]byte(begin), 258, 1))
	}
}

func TestEachDistance(t *testing.T) {
	want := rule(3, 32768)
	w := new(writer).stored(false, want).fixed(true)
	for distance := 1; distance <= 32768; distance++ {
		w.back(3, distance)
		for range 3 {
			want = append(want, want[len(want)-distance])
		}
	}
	checkWhole(t, "all distances", w.end().bytes(), want)
}

func TestDistanceFartherBackThanThereAreBytes(t *testing.T) {
	for k, from := range distanceFrom {
		for _, distance := range []int{from, from + 1<<distanceBits[k] - 1} {
			for n := max(distance-2, 0); n < distance; n++ {
				checkForm(t, "farther back", new(writer).stored(false, rule(k, n)).fixed(true).back(4, distance), n)
			}
			w := new(writer).stored(false, rule(k, distance)).fixed(true).back(4, distance).end()
			checkWhole(t, "as far as there are bytes", w.bytes(), copied(rule(k, distance), 4, distance))
		}
	}
	checkForm(t, "far back behind few", new(writer).fixed(true).put('a').back(258, 32768), 1)
}

// TestCopiesOverBlocks copies from blocks of other kinds.
func TestCopiesOverBlocks(t *testing.T) {
	want := []byte("abcde")
	w := new(writer).stored(false, want).fixed(false).back(4, 5).end()
	want = copied(want, 4, 5)
	w.told(false, just(265, 'x', 256, 257, 264), just(4, 2, 3)).put('x').back(10, 4).back(3, 3).end()
	want = copied(copied(append(want, 'x'), 10, 4), 3, 3)
	w.stored(false, []byte("fg")).fixed(false).back(9, 24).end().fixed(true).back(258, 1).end()
	want = copied(copied(append(want, "fg"...), 9, 24), 258, 1)
	checkWhole(t, "copies", w.bytes(), want)
}

func TestSymbolsThatMayNotBe(t *testing.T) {
	for _, symbol := range []int{286, 287} {
		checkForm(t, "at first", new(writer).fixed(true).put(symbol), 0)
		checkForm(t, "behind bytes", new(writer).fixed(true).put('a', 'b', symbol), 2)
		checkForm(t, "with what is behind a length", new(writer).fixed(true).put('a', symbol).distance(1).end(), 1)
	}
	for ahead := range 8 { // bytes of nine bits each, so that behind the symbol each number of bits is left
		begin := bytes.Repeat([]byte{200}, ahead)
		checkWrong(t, "at once", new(writer).fixed(true).literals(begin).put(286).bytes(), ahead, api.ErrForm)
	}
	for _, distance := range []int{30, 31} {
		for length := 3; length <= 258; length++ {
			w := new(writer).fixed(true).literals(rule(1, 9)).length(length)
			checkForm(t, "a distance", w.signs(w.distances[distance]), 9)
		}
	}
}

// TestLimitAtSymbols has the limit be told at each symbol, not ahead of it and
// not behind.
func TestLimitAtSymbols(t *testing.T) {
	for n := range 20 {
		w := new(writer).fixed(true).literals(rule(n, n)).put(200)
		checkWrong(t, "a byte too many, and nothing behind", w.bytes(), n, api.ErrLong)
		checkWrong(t, "a byte too many, and a wrong symbol behind", w.put(287).bytes(), n, api.ErrLong)
		w = new(writer).fixed(false).literals(rule(n, n)).end().head(true, 3)
		checkWrong(t, "no byte too many, and a wrong block behind", w.bytes(), n, api.ErrForm)
	}
	begin := func() *writer { return new(writer).fixed(true).put('a', 'b') }
	for limit := 2; limit < 12; limit++ {
		checkWrong(t, "a copy", begin().back(10, 2).bytes(), limit, api.ErrLong)
		checkWrong(t, "a copy, and a wrong symbol behind", begin().back(10, 2).put(287).bytes(), limit, api.ErrLong)
		checkWrong(t, "a copy from too far", begin().back(10, 3).bytes(), limit, api.ErrForm)
		w := begin().length(10)
		checkWrong(t, "a copy with a wrong distance", w.signs(w.distances[30]).bytes(), limit, api.ErrForm)
		checkWrong(t, "a wrong symbol", begin().put(286).bytes(), limit, api.ErrForm)
	}
	check(t, "a copy at the limit", begin().back(10, 2).end().bytes(), 12, []byte("abababababab"), 5, api.OK)
}

// TestCopyThatEnds has the bits end within a copy, whose bytes would be too
// many: that they are is so only when all of its bits are read.
func TestCopyThatEnds(t *testing.T) {
	for _, x := range []struct{ length, distance int }{{3, 1}, {10, 2}, {258, 4}, {257, 5}, {257, 6}, {20, 32}, {140, 1000}} {
		begin := rule(x.length, 1000)
		w := new(writer).stored(false, begin).fixed(true)
		from := w.text.Len()
		b := w.back(x.length, x.distance).bytes()
		whole := w.text.Len() / 8 // so many bytes have no bit behind the copy's
		for n := from / 8; n <= whole; n++ {
			want := api.ErrEnd
			if 8*n >= w.text.Len() {
				want = api.ErrLong
			}
			for _, limit := range []int{1000, 1001, 1000 + x.length - 1} {
				checkWrong(t, "a copy", b[:n], limit, want)
			}
		}
	}
}

func TestGreatestLimit(t *testing.T) {
	most := rule(1, 65535)
	w := new(writer)
	for range 16 {
		w.stored(false, most)
	}
	all, b := slices.Repeat(most, 16), w.bytes() // 2^20 bytes, but 16
	for _, x := range []struct {
		w    *writer
		want []byte
	}{
		{new(writer).stored(true, rule(2, 16)), slices.Concat(all, rule(2, 16))},
		{new(writer).stored(true, rule(2, 17)), nil},
		{new(writer).fixed(true).back(15, 1).put('a').end(), append(copied(all, 15, 1), 'a')},
		{new(writer).fixed(true).back(16, 1).end(), copied(all, 16, 1)},
		{new(writer).fixed(true).back(17, 1).end(), nil},
		{new(writer).fixed(true).back(16, 1).put('a').end(), nil},
	} {
		packed := slices.Concat(b, x.w.bytes())
		if x.want != nil {
			check(t, "as many as may be", packed, 1048576, x.want, len(packed), api.OK)
		} else {
			checkWrong(t, "one more", packed, 1048576, api.ErrLong)
		}
	}
}

// TestBegunBytes has blocks end at each bit of a byte.
func TestBegunBytes(t *testing.T) {
	for n := range 17 {
		w := new(writer).fixed(true).literals(bytes.Repeat([]byte{144}, n)).end()
		b := append(w.bytes(), 1, 2, 3)
		check(t, "begun", b, 99, bytes.Repeat([]byte{144}, n), (3+9*n+7+7)/8, api.OK)
	}
}

func TestInflateSharesNothing(t *testing.T) {
	want := rule(5, 500)
	b := new(writer).stored(false, want[:400]).fixed(true).literals(want[400:]).end().bytes()
	first, _, _ := Inflate(b, 500)
	second, _, _ := Inflate(b, 1000)
	clear(second)
	_ = append(second, 1, 2, 3)
	third, _, _ := Inflate(b, 500)
	clear(b)
	if !bytes.Equal(first, want) || !bytes.Equal(third, want) {
		t.Fatal("an answer shares bytes")
	}
}
