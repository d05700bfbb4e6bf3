package adler

import (
	"bytes"
	"hash/adler32"
	"slices"
	"testing"
)

// byByte is what the sum of all bytes of all parts is to be: both numbers are
// taken modulo 65,521 at each byte, as it is written.
func byByte(parts ...[]byte) uint32 {
	first, second := uint64(1), uint64(0)
	for _, part := range parts {
		for _, b := range part {
			first = (first + uint64(b)) % 65521
			second = (second + first) % 65521
		}
	}
	return uint32(second*65536 + first)
}

// row is n bytes by a short rule that begins with seed.
func row(seed, n int) []byte {
	l := make([]byte, n)
	x := uint32(seed)*2654435761 + 12345
	for i := range l {
		x = x*1664525 + 1013904223
		l[i] = byte(x >> 24)
	}
	return l
}

// alike is n bytes b.
func alike(b byte, n int) []byte {
	return bytes.Repeat([]byte{b}, n)
}

// lengths are some at which something may end: words of the machine, what is
// added ahead of one modulo, the modulus itself.
func lengths() []int {
	var l []int
	for _, n := range []int{8, 16, 256, 2048, 3854, 4096, 5552, 8192, 12288, 16384, 32768, 65521, 65536, 131042} {
		for d := -3; d <= 3; d++ {
			l = append(l, n+d)
		}
	}
	return append(l, 0, 1, 2, 3, 4, 100000, 1<<20-1, 1<<20, 1<<20+1)
}

// checkSum holds a row of bytes, given at one time to Of and to a zero Sum,
// against what it is to be and against the library's sum.
func checkSum(t *testing.T, what string, l []byte) {
	t.Helper()
	want := byByte(l)
	if other := adler32.Checksum(l); other != want {
		t.Fatalf("%s: the tests' own sum is %d, the library's %d", what, want, other)
	}
	if got := Of(l); got != want {
		t.Errorf("%s: Of is %d, not %d", what, got, want)
	}
	var s Sum
	s.Add(l)
	if got := s.Value(); got != want {
		t.Errorf("%s: Value behind Add is %d, not %d", what, got, want)
	}
}

// 13.1

func TestWrittenOut(t *testing.T) {
	for _, x := range []struct {
		text string
		want uint32
	}{
		{"", 1},
		{"\x00", 1<<16 + 1},
		{"\x01", 2<<16 + 2},
		{"\xff", 256<<16 + 256},
		{"\x00\x00", 2<<16 + 1},
		{"\x01\x00", 4<<16 + 2},
		{"\x00\x01", 3<<16 + 2},
		{"\x80\x80", 386<<16 + 257},
		{"a", 0x00620062},
		{"ab", 0x012600c4},
		{"abc", 0x024d0127},
		{"Wikipedia", 300286872},
		{"message digest", 0x29750586},
		{"abcdefghijklmnopqrstuvwxyz", 0x90860b20},
		{"ABCDEFGHIJKLMNOPQRSTUVWXYZabcdefghijklmnopqrstuvwxyz0123456789", 0x8adb150c},
		{"12345678901234567890123456789012345678901234567890123456789012345678901234567890", 0x97b61069},
	} {
		if got := Of([]byte(x.text)); got != x.want {
			t.Errorf("Of(%q) is %d, not %d", x.text, got, x.want)
		}
		checkSum(t, x.text, []byte(x.text))
	}
}

// TestNumbersTurnOver has each of the two numbers at 65,520, at 65,521, which
// is 0, and one above it.
func TestNumbersTurnOver(t *testing.T) {
	for _, x := range []struct {
		what          string
		l             []byte
		first, second uint32
	}{
		{"first 65520", append(alike(255, 256), 239), 65520, byByte(append(alike(255, 256), 239)) >> 16},
		{"first 65521", append(alike(255, 256), 240), 0, byByte(append(alike(255, 256), 240)) >> 16},
		{"first 65522", append(alike(255, 256), 241), 1, byByte(append(alike(255, 256), 241)) >> 16},
		{"second 65520", alike(0, 65520), 1, 65520},
		{"second 65521", alike(0, 65521), 1, 0},
		{"second 65522", alike(0, 65522), 1, 1},
		{"second twice round", alike(0, 131043), 1, 1},
		{"first 0 for ever", slices.Concat(alike(255, 256), []byte{240}, alike(0, 20000)), 0, byByte(append(alike(255, 256), 240)) >> 16},
	} {
		if got, want := Of(x.l), x.second<<16|x.first; got != want {
			t.Errorf("%s: Of is %d, not %d", x.what, got, want)
		}
		checkSum(t, x.what, x.l)
	}
}

func TestEachByteAlone(t *testing.T) {
	for b := range 256 {
		checkSum(t, "one byte", []byte{byte(b)})
		checkSum(t, "a byte ahead", []byte{byte(b), 7, 255})
		checkSum(t, "a byte behind", []byte{7, 255, byte(b)})
	}
}

func TestAllPairsOfBytes(t *testing.T) {
	for b := range 65536 {
		l := []byte{byte(b >> 8), byte(b)}
		if got, want := Of(l), byByte(l); got != want {
			t.Fatalf("Of(%v) is %d, not %d", l, got, want)
		}
	}
}

func TestAllShortLengths(t *testing.T) {
	for n := range 600 {
		checkSum(t, "short", row(n, n))
		checkSum(t, "short, all 255", alike(255, n))
	}
}

func TestLengths(t *testing.T) {
	for i, n := range lengths() {
		for _, b := range []byte{0, 1, 254, 255} {
			checkSum(t, "alike", alike(b, n))
		}
		checkSum(t, "mixed", row(i, n))
	}
}

// TestGreatestNumbersAhead begins long rows of 255 with each number as great
// as it can be.
func TestGreatestNumbersAhead(t *testing.T) {
	for _, zeros := range []int{0, 1, 65519, 65520, 65521} {
		for _, last := range []byte{238, 239, 240} {
			ahead := slices.Concat(alike(0, zeros), alike(255, 256), []byte{last})
			for _, n := range lengths() {
				if n > 70000 {
					continue
				}
				behind := alike(255, n)
				if got, want := Of(ahead, behind), byByte(ahead, behind); got != want {
					t.Fatalf("%d zeros, %d, %d of 255: Of is %d, not %d", zeros, last, n, got, want)
				}
			}
		}
	}
}

func TestLongRow(t *testing.T) {
	checkSum(t, "long, all 255", alike(255, 1<<24+5))
	checkSum(t, "long, mixed", row(5, 1<<24+5))
}

func TestNilSum(t *testing.T) {
	var s *Sum
	if got := s.Value(); got != 1 {
		t.Errorf("Value of a nil Sum is %d", got)
	}
	for _, parts := range [][][]byte{nil, {}, {nil}, {{}}, {{1, 2, 3}}, {alike(255, 6000), nil, {1}}} {
		s.Add(parts...)
		if got := s.Value(); s != nil || got != 1 {
			t.Errorf("Value of a nil Sum is %d behind Add", got)
		}
	}
}

func TestNoBytes(t *testing.T) {
	if Of() != 1 || Of(nil) != 1 || Of([]byte{}) != 1 || Of(nil, []byte{}, nil) != 1 {
		t.Error("Of of no bytes")
	}
	var zero Sum
	if zero.Value() != 1 || new(Sum).Value() != 1 || (&Sum{}).Value() != 1 {
		t.Error("Value of a zero Sum")
	}
	var s Sum
	for _, parts := range [][][]byte{nil, {}, {nil}, {{}}, {nil, {}, nil}, {make([]byte, 0, 100)}} {
		s.Add(parts...)
		if got := s.Value(); got != 1 {
			t.Errorf("Value is %d behind %v", got, parts)
		}
	}
	s.Add([]byte("Wikipedia"))
	for _, parts := range [][][]byte{nil, {}, {nil}, {{}}, {nil, {}, nil}} {
		s.Add(parts...)
		if got := s.Value(); got != 300286872 {
			t.Errorf("Value is %d behind no bytes more", got)
		}
	}
}

// TestValueChangesNothing asks behind each byte, more than once.
func TestValueChangesNothing(t *testing.T) {
	l := row(3, 9000)
	var s Sum
	for i := range l {
		s.Add(l[i : i+1])
		first := s.Value()
		if again := s.Value(); again != first {
			t.Fatalf("Value behind %d bytes is %d and then %d", i+1, first, again)
		}
		if want := byByte(l[:i+1]); i%97 == 0 && first != want {
			t.Fatalf("Value behind %d bytes is %d, not %d", i+1, first, want)
		}
	}
	if got, want := s.Value(), byByte(l); got != want {
		t.Errorf("Value is %d, not %d", got, want)
	}
}

func TestPartsAreNotChanged(t *testing.T) {
	a, b := row(1, 10000), row(2, 5000)
	parts := [][]byte{a, nil, b[:3000]}
	a0, b0 := slices.Clone(a), slices.Clone(b)
	var s Sum
	s.Add(parts...)
	Of(parts...)
	if !bytes.Equal(a, a0) || !bytes.Equal(b, b0) {
		t.Error("bytes that were handed in are others")
	}
	if len(parts) != 3 || &parts[0][0] != &a[0] || len(parts[0]) != 10000 || parts[1] != nil || &parts[2][0] != &b[0] || len(parts[2]) != 3000 {
		t.Error("the list that was handed in is another one")
	}
}

func TestPartsAreNotKept(t *testing.T) {
	a, b := row(1, 10000), row(2, 5000)
	parts := [][]byte{a, b}
	want := byByte(a, b)
	var s Sum
	s.Add(parts...)
	clear(a)
	clear(b)
	clear(parts)
	if got := s.Value(); got != want {
		t.Errorf("Value is %d, not %d, behind a change of what was handed in", got, want)
	}
	s.Add([]byte{9})
	if got := s.Value(); got != byByte(row(1, 10000), row(2, 5000), []byte{9}) {
		t.Errorf("Value is %d behind a byte more", got)
	}
}

func TestSumsShareNothing(t *testing.T) {
	var s, other Sum
	s.Add([]byte("Wiki"))
	if got := other.Value(); got != 1 {
		t.Errorf("another sum is %d", got)
	}
	copied := s
	s.Add([]byte("pedia"))
	copied.Add([]byte("ng"))
	Of([]byte("other"))
	if got := s.Value(); got != 300286872 {
		t.Errorf("the sum is %d", got)
	}
	if got, want := copied.Value(), byByte([]byte("Wiking")); got != want {
		t.Errorf("the copy is %d, not %d", got, want)
	}
}

// 13.2

// checkCut holds parts, given together and one by one, against the sum of
// their bytes.
func checkCut(t *testing.T, want uint32, parts ...[]byte) {
	t.Helper()
	if got := Of(parts...); got != want {
		t.Fatalf("Of %d parts is %d, not %d", len(parts), got, want)
	}
	var s, together Sum
	for _, part := range parts {
		s.Add(part)
	}
	together.Add(parts...)
	if got := s.Value(); got != want {
		t.Fatalf("Value behind %d calls is %d, not %d", len(parts), got, want)
	}
	if got := together.Value(); got != want {
		t.Fatalf("Value behind %d parts is %d, not %d", len(parts), got, want)
	}
}

func TestCutAtEachPlace(t *testing.T) {
	for _, l := range [][]byte{[]byte("Wikipedia"), row(4, 100), alike(255, 300)} {
		want := byByte(l)
		for i := range len(l) + 1 {
			checkCut(t, want, l[:i], l[i:])
			for j := i; j <= len(l); j++ {
				checkCut(t, want, l[:i], l[i:j], l[j:])
			}
		}
	}
}

func TestCutOfLongRows(t *testing.T) {
	for _, l := range [][]byte{row(6, 20000), alike(255, 20000), alike(0, 70000)} {
		want := byByte(l)
		for _, i := range lengths() {
			if i <= len(l) {
				checkCut(t, want, l[:i], l[i:])
				checkCut(t, want, nil, l[:i], []byte{}, l[i:], nil)
			}
		}
	}
}

func TestCutIntoLikeParts(t *testing.T) {
	for _, l := range [][]byte{row(7, 20000), alike(255, 20000)} {
		want := byByte(l)
		for _, n := range []int{1, 2, 3, 7, 255, 256, 1000, 4095, 4096, 4097, 5552, 5553, 19999, 20000, 20001} {
			checkCut(t, want, slices.Collect(slices.Chunk(l, n))...)
		}
	}
}

// TestCutByChance cuts by a short rule, some parts being empty.
func TestCutByChance(t *testing.T) {
	l := row(8, 30000)
	want, n := byByte(l), 1
	for range 200 {
		var parts [][]byte
		for rest := l; len(rest) > 0; {
			n = (n*1103 + 12345) % 65537
			at := min(len(rest), n%[]int{3, 50, 900, 20000}[n%4])
			parts = append(parts, rest[:at])
			rest = rest[at:]
		}
		checkCut(t, want, parts...)
	}
}

// TestManyParts hands the same bytes over and over.
func TestManyParts(t *testing.T) {
	l := alike(255, 5000)
	parts := slices.Repeat([][]byte{l}, 1000)
	checkCut(t, byByte(parts...), parts...)
}

// TestOneByteChanged has one byte of a row be each other one.
func TestOneByteChanged(t *testing.T) {
	for _, l := range [][]byte{{0}, {255}, []byte("Wikipedia"), alike(0, 40), alike(255, 40), row(9, 70), row(10, 6000)} {
		whole := Of(l)
		for _, i := range []int{0, 1, len(l) / 2, len(l) - 2, len(l) - 1} {
			if i < 0 || i >= len(l) {
				continue
			}
			seen := map[uint32]bool{}
			other := slices.Clone(l)
			for b := range 256 {
				other[i] = byte(b)
				got := Of(other)
				if (got == whole) != (other[i] == l[i]) {
					t.Errorf("with byte %d as %d of %d bytes the sum is %d, that of the row itself %d", i, b, len(l), got, whole)
				}
				seen[got] = true
			}
			if len(seen) != 256 {
				t.Errorf("%d sums of 256 rows that differ in byte %d", len(seen), i)
			}
		}
	}
}

// TestOneByteChangedFarAhead has as many bytes behind the changed one as make
// the second number come round to the same.
func TestOneByteChangedFarAhead(t *testing.T) {
	for _, behind := range []int{4095, 4096, 65519, 65520, 65521} {
		l := row(11, behind+1)
		seen := map[uint32]bool{}
		for b := range 256 {
			l[0] = byte(b)
			seen[Of(l)] = true
		}
		if len(seen) != 256 {
			t.Errorf("%d sums of 256 rows that differ in a byte with %d behind it", len(seen), behind)
		}
	}
}
