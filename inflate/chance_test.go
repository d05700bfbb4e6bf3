package inflate

import (
	"bytes"
	"compress/flate"
	"slices"
	"testing"

	"squeal/api"
)

// words are n bytes in which much comes again.
func words(seed, n int) []byte {
	var l []byte
	c := chance(seed)
	for len(l) < n {
		switch c.below(4) {
		case 0:
			l = append(l, rule(c.below(40), 1+c.below(9))...)
		case 1:
			l = append(l, bytes.Repeat([]byte{byte(c.below(256))}, 1+c.below(400))...)
		default:
			l = append(l, " pilot sync pulse pause edge gap tape"[c.below(30):]...)
		}
	}
	return l[:n]
}

// someLengths are n lengths, of which as many as wanted have codes that are
// just enough, the symbol must among them.
func someLengths(c *chance, n, codes, must int) []int {
	l := []int{1, 1}
	if codes == 1 {
		l = []int{1}
	}
	for len(l) < codes {
		i := c.below(len(l))
		if c.below(3) == 0 {
			i = len(l) - 1
		}
		if l[i] < 15 {
			l[i]++
			l = append(l, l[i])
		}
	}
	lengths := make([]int, n)
	lengths[must] = l[0]
	for _, length := range l[1:] {
		symbol := c.below(n)
		for lengths[symbol] != 0 {
			symbol = c.below(n)
		}
		lengths[symbol] = length
	}
	return lengths
}

// someRuns tell lengths, by repeats where it comes so.
func someRuns(c *chance, lengths []int) []run {
	var l []run
	for at := 0; at < len(lengths); {
		same := 1
		for at+same < len(lengths) && lengths[at+same] == lengths[at] {
			same++
		}
		behind := at > 0 && lengths[at] == lengths[at-1]
		var n int
		switch {
		case lengths[at] == 0 && same >= 11 && c.below(4) > 0:
			n = 11 + c.below(min(same, 138)-10)
			l = append(l, run{18, n - 11})
		case lengths[at] == 0 && same >= 3 && c.below(4) > 0:
			n = 3 + c.below(min(same, 10)-2)
			l = append(l, run{17, n - 3})
		case behind && same >= 3 && c.below(4) > 0:
			n = 3 + c.below(min(same, 6)-2)
			l = append(l, run{16, n - 3})
		default:
			n = 1
			l = append(l, run{lengths[at], 0})
		}
		at += n
	}
	return l
}

// someTold begins a block of Kind 2.
func (w *writer) someTold(c *chance, last bool) {
	symbols := someLengths(c, 257+c.below(30), 2+c.below(200), 256)
	distances := make([]int, 1+c.below(30))
	if n := c.below(len(distances) + 1); n > 0 {
		distances = someLengths(c, len(distances), n, c.below(len(distances)))
	}
	by := plain()
	if c.below(2) == 0 {
		by = just(19, 18, 0, 17, 16, 8, 7, 9, 6, 10, 5, 11, 4, 12, 3, 13, 2, 14, 1, 15)
	}
	w.begin(last, len(symbols), len(distances), by)
	w.runs(by, someRuns(c, slices.Concat(symbols, distances))...).by(symbols, distances)
}

// someSymbols puts symbols that have codes, and is b with their bytes behind.
func (w *writer) someSymbols(c *chance, b []byte) []byte {
	for range c.below(60) {
		symbol := c.below(286)
		if symbol >= len(w.symbols) || symbol == 256 || w.symbols[symbol] == "" {
			continue
		}
		if symbol < 256 {
			w.put(symbol)
			b = append(b, byte(symbol))
			continue
		}
		k := c.below(30)
		if k >= len(w.distances) || w.distances[k] == "" || distanceFrom[k] > len(b) {
			continue
		}
		distance := min(len(b), distanceFrom[k]+c.below(1<<distanceBits[k]))
		more := c.below(1 << lengthBits[symbol-257])
		w.put(symbol).number(more, lengthBits[symbol-257]).distance(distance)
		b = copied(b, lengthFrom[symbol-257]+more, distance)
	}
	return b
}

// someBlocks are blocks by chance, and what they unpack to.
func someBlocks(c *chance) ([]byte, []byte) {
	w := new(writer)
	var want []byte
	for n := 1 + c.below(5); n > 0; n-- {
		switch c.below(4) {
		case 0:
			b := rule(c.below(1000), c.below(50))
			w.stored(n == 1, b)
			want = append(want, b...)
		case 1:
			want = w.fixed(n == 1).someSymbols(c, want)
			w.end()
		default:
			w.someTold(c, n == 1)
			want = w.someSymbols(c, want)
			w.end()
		}
	}
	return w.bytes(), want
}

func TestBlocksByChance(t *testing.T) {
	c := chance(15)
	for range 400 {
		packed, want := someBlocks(&c)
		checkWhole(t, "by chance", packed, want)
	}
}

// check has Inflate answer what the model does.
func (x *modeller) check(t *testing.T, what string, b []byte, limit int) api.Errno {
	t.Helper()
	want, n, e := x.inflate(b, limit)
	check(t, what, b, limit, want, n, e)
	return e
}

func TestModel(t *testing.T) {
	x := newModeller()
	c := chance(16)
	for range 100 {
		packed, want := someBlocks(&c)
		got, n, e := x.inflate(packed, api.MaxOut)
		if !bytes.Equal(got, want) || n != len(packed) || e != api.OK {
			t.Fatal("the tests' own model is", len(got), n, e)
		}
	}
}

// TestBrokenBlocks changes bits of blocks, cuts them short, and has limits.
func TestBrokenBlocks(t *testing.T) {
	x := newModeller()
	c := chance(17)
	seen := map[api.Errno]int{}
	for range 6000 {
		packed, want := someBlocks(&c)
		for range c.below(4) {
			packed[c.below(len(packed))] ^= 1 << c.below(8)
		}
		if c.below(3) == 0 {
			packed = packed[:c.below(len(packed))]
		}
		limit := api.MaxOut
		if c.below(2) == 0 {
			limit = c.below(len(want) + 2)
		}
		seen[x.check(t, "broken", packed, limit)]++
	}
	for _, e := range []api.Errno{api.OK, api.ErrEnd, api.ErrForm, api.ErrLong} {
		if seen[e] < 200 {
			t.Errorf("only %d are %d", seen[e], e)
		}
	}
}

// TestBrokenBegin changes bits of what a block of Kind 2 begins with.
func TestBrokenBegin(t *testing.T) {
	x := newModeller()
	c := chance(18)
	for range 60 {
		w := new(writer)
		w.someTold(&c, true)
		w.someSymbols(&c, nil)
		packed := w.end().bytes()
		for bit := range min(8*len(packed), 400) {
			packed[bit/8] ^= 1 << (bit % 8)
			x.check(t, "one bit", packed, api.MaxOut)
			packed[bit/8] ^= 1 << (bit % 8)
		}
	}
}

func TestTwoBytes(t *testing.T) {
	x := newModeller()
	for v := range 65536 {
		for limit := range 2 {
			x.check(t, "two bytes", []byte{byte(v), byte(v / 256)}, limit)
		}
	}
}

func TestBytesByChance(t *testing.T) {
	x := newModeller()
	c := chance(19)
	for seed := range 40000 {
		b := rule(seed, 1+c.below(40))
		b[0] = b[0]&^6 | byte(c.below(3))<<1
		if c.below(2) == 0 {
			b[0] = b[0]&^6 | 2
		}
		x.check(t, "by chance", b, c.below(400))
	}
}

// TestLibrarysBlocks has the library pack bytes of several kinds.
func TestLibrarysBlocks(t *testing.T) {
	for seed, n := range []int{0, 1, 2, 10, 100, 1000, 5000, 65535, 65536, 100000, 300000, 1048576} {
		for _, b := range [][]byte{words(seed, n), rule(seed, n), make([]byte, n)} {
			for level := -2; level <= 9; level++ {
				if n > 100000 && level != 0 && level != 6 {
					continue
				}
				var packed bytes.Buffer
				w, err := flate.NewWriter(&packed, level)
				if err != nil {
					t.Fatal(err)
				}
				w.Write(b)
				w.Close()
				checkWhole(t, "the library's", packed.Bytes(), b)
			}
		}
	}
}
