package tzx

import (
	"math"
	"slices"
	"strconv"
	"testing"
)

// 19.2

func TestBitsWrittenOut(t *testing.T) {
	for _, x := range []struct{ n, want int }{
		{math.MinInt, 0}, {-257, 0}, {-256, 0}, {-2, 0}, {-1, 0}, {0, 0}, {1, 0},
		{2, 1}, {3, 2}, {4, 2}, {5, 3}, {8, 3}, {9, 4}, {16, 4}, {17, 5}, {32, 5}, {33, 6}, {64, 6}, {65, 7}, {128, 7}, {129, 8},
		{255, 8}, {256, 8}, {257, 9}, {65536, 16}, {65537, 17}, {1 << 32, 32}, {1<<32 + 1, 33},
		{1 << 62, 62}, {1<<62 + 1, 63}, {math.MaxInt, 63},
	} {
		if got := Bits(x.n); got != x.want {
			t.Errorf("Bits(%d) is %d, not %d", x.n, got, x.want)
		}
	}
}

func TestBitsOfEach(t *testing.T) {
	for n := 2; n < 70000; n++ {
		if got, want := Bits(n), len(strconv.FormatInt(int64(n-1), 2)); got != want {
			t.Fatalf("Bits(%d) is %d, not %d", n, got, want)
		}
	}
}

func TestMany(t *testing.T) {
	if got := Many(0); got != 256 {
		t.Errorf("Many(0) is %d", got)
	}
	for _, n := range []int{math.MinInt, -65536, 65536, 1 << 32, math.MaxInt} {
		if got := Many(n); got != n {
			t.Errorf("Many(%d) is %d", n, got)
		}
	}
	for n := -1000; n < 1000; n++ {
		if got := Many(n); n != 0 && got != n {
			t.Errorf("Many(%d) is %d", n, got)
		}
	}
}

// signs are the bits of bytes as signs, the highest one of a byte first.
func signs(b []byte) string {
	s := ""
	for _, x := range b {
		n := strconv.FormatInt(int64(x), 2)
		s += "00000000"[len(n):] + n
	}
	return s
}

// cutOut is symbol i, cut out of signs.
func cutOut(s string, bits, i int) (int, bool) {
	if bits == 0 {
		return 0, true
	}
	if bits*i+bits > len(s) {
		return 0, false
	}
	n, _ := strconv.ParseInt(s[bits*i:bits*i+bits], 2, 64)
	return int(n), true
}

func TestSymbolWrittenOut(t *testing.T) {
	data := []byte{0x19, 0xc7, 0x80}
	for _, x := range []struct {
		bits, i, want int
		ok            bool
	}{
		{1, 0, 0, true}, {1, 3, 1, true}, {1, 7, 1, true}, {1, 8, 1, true}, {1, 16, 1, true}, {1, 23, 0, true}, {1, 24, 0, false},
		{2, 0, 0, true}, {2, 1, 1, true}, {2, 2, 2, true}, {2, 3, 1, true}, {2, 4, 3, true}, {2, 11, 0, true}, {2, 12, 0, false},
		{3, 0, 0, true}, {3, 1, 6, true}, {3, 2, 3, true}, {3, 4, 3, true}, {3, 5, 6, true}, {3, 7, 0, true}, {3, 8, 0, false},
		{5, 0, 3, true}, {5, 1, 7, true}, {5, 3, 24, true}, {5, 4, 0, false},
		{7, 0, 12, true}, {7, 1, 113, true}, {7, 2, 112, true}, {7, 3, 0, false},
		{8, 0, 25, true}, {8, 1, 199, true}, {8, 2, 128, true}, {8, 3, 0, false},
		{0, 0, 0, true}, {0, 24, 0, true}, {0, math.MaxInt, 0, true},
	} {
		if got, ok := Symbol(data, x.bits, x.i); got != x.want || ok != x.ok {
			t.Errorf("Symbol(.., %d, %d) is %d, %v, not %d, %v", x.bits, x.i, got, ok, x.want, x.ok)
		}
	}
}

func TestSymbolOfEach(t *testing.T) {
	c := chance(19)
	for n := range 40 {
		for range 8 {
			data := c.bytes(n)
			kept, s := slices.Clone(data), signs(data)
			for bits := range 9 {
				for i := range 8*n + 20 {
					want, wantOk := cutOut(s, bits, i)
					if got, ok := Symbol(data, bits, i); got != want || ok != wantOk {
						t.Fatalf("Symbol(%v, %d, %d) is %d, %v, not %d, %v", data, bits, i, got, ok, want, wantOk)
					}
				}
			}
			if !slices.Equal(data, kept) {
				t.Fatal("what was handed in is changed")
			}
		}
	}
}

// TestSymbolOfAllPairs has each pair of bytes.
func TestSymbolOfAllPairs(t *testing.T) {
	for pair := range 65536 {
		data := []byte{byte(pair >> 8), byte(pair)}
		for bits := 1; bits < 9; bits++ {
			for i := range 16 / bits {
				want := pair >> (16 - bits*i - bits) % (1 << bits)
				if got, ok := Symbol(data, bits, i); got != want || !ok {
					t.Fatalf("Symbol(%v, %d, %d) is %d, %v, not %d", data, bits, i, got, ok, want)
				}
			}
		}
	}
}

func TestSymbolWrong(t *testing.T) {
	wrong := func(data []byte, bits, i int) {
		t.Helper()
		if got, ok := Symbol(data, bits, i); got != 0 || ok {
			t.Errorf("Symbol of %d bytes, %d, %d is %d, %v", len(data), bits, i, got, ok)
		}
	}
	data := slices.Repeat([]byte{255}, 100)
	for _, bits := range []int{math.MinInt, -256, -8, -1, 9, 10, 16, 64, 256, 1 << 32, math.MaxInt} {
		for _, i := range []int{math.MinInt, -1, 0, 1, 5, math.MaxInt} {
			wrong(data, bits, i)
			wrong(nil, bits, i)
		}
	}
	for bits := range 9 {
		for _, i := range []int{math.MinInt, math.MinInt + 1, math.MinInt / 8, -1 << 32, -100, -2, -1} {
			wrong(data, bits, i)
			wrong(nil, bits, i)
		}
		if bits == 0 {
			continue
		}
		// Times that many bits the last ones are beyond int, and some of them 0 again.
		for _, i := range []int{800 / bits, 800/bits + 1, 1 << 32, 1 << 56, 1 << 60, 1<<60 + 1, 1 << 61, 1<<61 + 1, 1 << 62, 1<<62 + 1, math.MaxInt / bits, math.MaxInt/bits + 1, math.MaxInt - 1, math.MaxInt} {
			wrong(data, bits, i)
		}
		wrong(nil, bits, 0)
		wrong([]byte{}, bits, 0)
	}
}
