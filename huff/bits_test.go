package huff

import (
	"bytes"
	"math"
	"slices"
	"testing"
)

// row is n bytes by a short rule that begins with seed.
func row(seed, n int) []byte {
	l := make([]byte, n)
	x := uint32(seed)*2654435761 + 12345
	for i := range l {
		x = x*1664525 + 1013904223
		l[i] = byte(x >> 24)
	}
	return l
}

// chance is a row of numbers by a short rule.
type chance uint64

// below is the next number, from 0 to n - 1.
func (c *chance) below(n int) int {
	*c = *c*6364136223846793005 + 1442695040888963407
	return int(uint64(*c)>>33) % n
}

// slow reads bits one by one, out of a list of all of them.
type slow struct {
	bits []int
	at   int
}

func slowly(b []byte) *slow {
	s := &slow{}
	for _, v := range b {
		for k := range 8 {
			s.bits = append(s.bits, int(v)/(1<<k)%2)
		}
	}
	return s
}

func (s *slow) take(n int) (int, bool) {
	if n < 0 || n > 24 || s.at+n > len(s.bits) {
		return 0, false
	}
	v, weight := 0, 1
	for range n {
		v += weight * s.bits[s.at]
		weight *= 2
		s.at++
	}
	return v, true
}

func (s *slow) align() {
	for s.at%8 != 0 {
		s.at++
	}
}

func (s *slow) bytes(n int) ([]byte, bool) {
	before := s.at
	s.align()
	if n < 0 || n > (len(s.bits)-s.at)/8 {
		s.at = before
		return nil, false
	}
	l := []byte{}
	for range n {
		v, _ := s.take(8)
		l = append(l, byte(v))
	}
	return l, true
}

func (s *slow) begun() int {
	n := 0
	for at := 0; at < s.at; at += 8 {
		n++
	}
	return n
}

func checkTake(t *testing.T, what string, r *Bits, n, want int, wantOk bool) {
	t.Helper()
	if got, ok := r.Take(n); got != want || ok != wantOk {
		t.Fatalf("%s: Take(%d) is %d, %v, not %d, %v", what, n, got, ok, want, wantOk)
	}
}

func checkAt(t *testing.T, what string, r *Bits, want int) {
	t.Helper()
	for range 2 {
		if got := r.At(); got != want {
			t.Fatalf("%s: At is %d, not %d", what, got, want)
		}
	}
}

// 14.1

func TestTakeWrittenOut(t *testing.T) {
	r := Read([]byte{0b10110010, 0x34, 0x12, 0xff, 0x00, 0x80, 0xef, 0xcd, 0xab})
	checkAt(t, "ahead", r, 0)
	checkTake(t, "no bit", r, 0, 0, true)
	checkAt(t, "behind no bit", r, 0)
	checkTake(t, "first bit", r, 1, 0, true)
	checkAt(t, "behind the first bit", r, 1)
	checkTake(t, "second bit", r, 1, 1, true)
	checkTake(t, "three", r, 3, 0b100, true)
	checkTake(t, "the last three", r, 3, 0b101, true)
	checkAt(t, "behind the first byte", r, 1)
	checkTake(t, "two bytes", r, 16, 0x1234, true)
	checkAt(t, "behind three bytes", r, 3)
	checkTake(t, "bits across", r, 12, 0x0ff, true)
	checkAt(t, "in the fifth byte", r, 5)
	checkTake(t, "more across", r, 12, 0x800, true)
	checkAt(t, "behind six bytes", r, 6)
	checkTake(t, "24", r, 24, 0xabcdef, true)
	checkAt(t, "behind all", r, 9)
	checkTake(t, "no bit at the end", r, 0, 0, true)
	checkTake(t, "behind the end", r, 1, 0, false)
	checkAt(t, "still", r, 9)
}

func TestTakeOfEachNumberAtEachPlace(t *testing.T) {
	for seed := range 20 {
		b := row(seed, 8)
		for from := range 65 {
			for n := range 25 {
				r, s := Read(b), slowly(b)
				for range from {
					r.Take(1)
				}
				s.at = from
				want, ok := s.take(n)
				checkTake(t, "at a place", r, n, want, ok)
				checkAt(t, "behind it", r, s.begun())
				want, ok = s.take(3)
				checkTake(t, "once more", r, 3, want, ok)
			}
		}
	}
}

func TestTakeOfOtherNumbers(t *testing.T) {
	b := row(1, 40)
	for _, from := range []int{0, 1, 7, 8, 13, 24} {
		for _, n := range []int{-1, -2, -8, -24, -64, math.MinInt, math.MinInt + 1, 25, 26, 32, 63, 64, 65, 255, 256, 1 << 32, 1<<32 + 1, math.MaxInt, math.MaxInt - 1} {
			r, s := Read(b), slowly(b)
			r.Take(from)
			s.take(from)
			checkTake(t, "another number", r, n, 0, false)
			checkAt(t, "behind another number", r, s.begun())
			want, _ := s.take(24)
			checkTake(t, "nothing was taken", r, 24, want, true)
		}
	}
}

func TestTakeOfMoreThanThereIs(t *testing.T) {
	for size := range 5 {
		b := row(size, size)
		for left := range min(8*size, 24) {
			r, s := Read(b), slowly(b)
			s.at = 8*size - left
			for range s.at {
				r.Take(1)
			}
			for n := left + 1; n <= 26; n++ {
				checkTake(t, "too many", r, n, 0, false)
				checkAt(t, "nothing was taken", r, s.begun())
			}
			want, _ := s.take(left)
			checkTake(t, "what is left", r, left, want, true)
			checkTake(t, "nothing is left", r, 1, 0, false)
		}
	}
}

func TestAlignAtEachPlace(t *testing.T) {
	b := row(2, 6)
	for from := range 49 {
		r, s := Read(b), slowly(b)
		for range from {
			r.Take(1)
		}
		s.at = from
		s.align()
		for range 3 {
			r.Align()
			checkAt(t, "aligned", r, s.begun())
		}
		want, ok := s.take(8)
		checkTake(t, "behind Align", r, 8, want, ok)
	}
}

func TestBytesAtEachPlace(t *testing.T) {
	for size := range 8 {
		b := row(size, size)
		for from := range 8*size + 1 {
			for _, n := range []int{0, 1, 2, 3, 4, 5, 6, 7, 8, 9, 56, 64, -1, -2, -8, math.MinInt, math.MinInt + 1, math.MaxInt, math.MaxInt - 1, math.MaxInt / 8, math.MaxInt/8 + 1, 1 << 61, 1 << 32} {
				r, s := Read(b), slowly(b)
				for range from {
					r.Take(1)
				}
				s.at = from
				want, wantOk := s.bytes(n)
				got, ok := r.Bytes(n)
				if !bytes.Equal(got, want) || ok != wantOk || !ok && got != nil {
					t.Fatalf("Bytes(%d) behind %d of %d bits is %v, %v, not %v, %v", n, from, 8*size, got, ok, want, wantOk)
				}
				checkAt(t, "behind Bytes", r, s.begun())
				for _, more := range []int{3, 8, 1} {
					v, vOk := s.take(more)
					checkTake(t, "behind Bytes", r, more, v, vOk)
				}
			}
		}
	}
}

func TestBytesOfLongRow(t *testing.T) {
	b := row(3, 100000)
	r := Read(b)
	checkTake(t, "ahead", r, 3, int(b[0])%8, true)
	got, ok := r.Bytes(70000)
	if !ok || !bytes.Equal(got, b[1:70001]) {
		t.Fatal("70000 bytes")
	}
	checkAt(t, "behind them", r, 70001)
	if got, ok := r.Bytes(30000); ok || got != nil {
		t.Fatal("more than there are")
	}
	got, ok = r.Bytes(29999)
	if !ok || !bytes.Equal(got, b[70001:]) {
		t.Fatal("all that are left")
	}
	checkAt(t, "behind all", r, 100000)
	if got, ok := r.Bytes(0); !ok || len(got) != 0 {
		t.Fatal("no byte at the end")
	}
}

func TestNoBytesToRead(t *testing.T) {
	for _, r := range []*Bits{Read(nil), Read([]byte{}), Read(make([]byte, 0, 9))} {
		if r == nil {
			t.Fatal("no reader")
		}
		for range 2 {
			checkAt(t, "none", r, 0)
			checkTake(t, "none", r, 0, 0, true)
			checkTake(t, "none", r, 1, 0, false)
			if got, ok := r.Bytes(0); len(got) != 0 || !ok {
				t.Fatal("no bytes of none")
			}
			if got, ok := r.Bytes(1); got != nil || ok {
				t.Fatal("a byte of none")
			}
			r.Align()
		}
	}
}

func TestNilReader(t *testing.T) {
	var r *Bits
	r.Align()
	for _, n := range []int{-1, 1, 24, 25} {
		checkTake(t, "nil", r, n, 0, false)
		if got, ok := r.Bytes(n); got != nil || ok {
			t.Fatal("bytes of nil")
		}
	}
	r.Take(0)
	r.Bytes(0)
	checkAt(t, "nil", r, 0)
}

// TestReaderByChance goes on with calls by a short rule.
func TestReaderByChance(t *testing.T) {
	c := chance(7)
	for turn := range 600 {
		b := row(turn, c.below(60))
		r, s := Read(b), slowly(b)
		for range 40 {
			switch c.below(8) {
			case 0:
				r.Align()
				s.align()
			case 1:
				n := c.below(9) - 1
				got, ok := r.Bytes(n)
				want, wantOk := s.bytes(n)
				if !bytes.Equal(got, want) || ok != wantOk {
					t.Fatalf("Bytes(%d) is %v, %v, not %v, %v", n, got, ok, want, wantOk)
				}
			default:
				n := c.below(27) - 1
				want, ok := s.take(n)
				checkTake(t, "by chance", r, n, want, ok)
			}
			checkAt(t, "by chance", r, s.begun())
		}
	}
}

func TestReaderSharesNothing(t *testing.T) {
	b := row(4, 20)
	kept := slices.Clone(b)
	r, other := Read(b), Read(b)
	clear(b)
	first, _ := r.Bytes(5)
	if !bytes.Equal(first, kept[:5]) {
		t.Fatal("what was handed in is kept")
	}
	clear(first)
	_ = append(first, 99, 98, 97)
	second, _ := r.Bytes(5)
	if !bytes.Equal(second, kept[5:10]) {
		t.Fatal("what was told is kept")
	}
	checkAt(t, "the other reader", other, 0)
	all, _ := other.Bytes(20)
	if !bytes.Equal(all, kept) {
		t.Fatal("two readers share bytes")
	}
	clear(all)
	third, _ := r.Bytes(10)
	if !bytes.Equal(third, kept[10:]) {
		t.Fatal("an answer of one reader is the other's")
	}
	if !bytes.Equal(b, make([]byte, 20)) {
		t.Fatal("what was handed in is changed")
	}
}
