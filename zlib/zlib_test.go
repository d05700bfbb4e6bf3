package zlib

import (
	"bytes"
	"math"
	"slices"
	"testing"

	"squeal/adler"
	"squeal/api"
	"squeal/inflate"
)

// chance is a row of numbers by a short rule.
type chance uint64

func (c *chance) below(n int) int {
	*c = *c*6364136223846793005 + 1442695040888963407
	return int(uint64(*c) >> 33 % uint64(n))
}

// rule is n bytes by a short rule that begins with seed.
func rule(seed, n int) []byte {
	l := make([]byte, n)
	c := chance(seed)
	for i := range l {
		l[i] = byte(c.below(256))
	}
	return l
}

// sumOf are the four bytes of a sum, reckoned byte by byte as it is written.
func sumOf(l []byte) []byte {
	first, second := 1, 0
	for _, b := range l {
		first = (first + int(b)) % 65521
		second = (second + first) % 65521
	}
	return []byte{byte(second / 256), byte(second % 256), byte(first / 256), byte(first % 256)}
}

func check(t *testing.T, what string, b []byte, limit int, want []byte, wantN int, wantE api.Errno) {
	t.Helper()
	kept := slices.Clone(b)
	got, n, e := Unpack(b, limit)
	if !bytes.Equal(got, want) || n != wantN || e != wantE {
		t.Fatalf("%s: Unpack of %d bytes, %d at most, is %d bytes (right: %v), %d, %d, not %d bytes, %d, %d", what, len(b), limit, len(got), bytes.Equal(got, want), n, e, len(want), wantN, wantE)
	}
	if !bytes.Equal(b, kept) {
		t.Fatalf("%s: what was handed in is changed", what)
	}
}

func checkWrong(t *testing.T, what string, b []byte, limit int, want api.Errno) {
	t.Helper()
	check(t, what, b, limit, nil, 0, want)
}

// checkWhole has want be what all of b unpacks to: with any limit that is
// enough, with none that isn't, whatever stands behind, not cut short, and
// not with a sum that is another one in any bit.
func checkWhole(t *testing.T, what string, b, want []byte) {
	t.Helper()
	check(t, what, b, len(want), want, len(b), api.OK)
	check(t, what, b, api.MaxOut, want, len(b), api.OK)
	for _, behind := range [][]byte{{0}, {255}, {7, 1, 2, 3, 4, 5}, b} {
		check(t, what+", with more behind", slices.Concat(b, behind), len(want), want, len(b), api.OK)
	}
	for _, limit := range some(len(want)) {
		checkWrong(t, what+", with a limit below", b, limit, api.ErrLong)
	}
	for _, n := range some(len(b)) {
		checkWrong(t, what+", cut short", b[:n], api.MaxOut, api.ErrEnd)
	}
	for bit := range 32 {
		l := slices.Clone(b)
		l[len(l)-4+bit/8] ^= 1 << (bit % 8)
		checkWrong(t, what+", with another sum", l, len(want), api.ErrSum)
	}
}

// some are numbers from 0 to n - 1: all, if these are few, else both ends of
// them and a few between.
func some(n int) []int {
	var l []int
	for i := 0; i < n; i++ {
		l = append(l, i)
		if n > 100 && i > 10 && i < n-10 {
			i = min(i+n/16, n-10)
		}
	}
	return l
}

// fixed is "abcabcabc", packed as one block of Kind 1 with a copy.
func fixed() []byte {
	return []byte{0x78, 0x9c, 0x4b, 0x4c, 0x4a, 0x4e, 0x04, 0x23, 0x00, 0x11, 0x3d, 0x03, 0x73}
}

// wrongLimits are all kinds of those that may not be.
func wrongLimits() []int {
	return []int{-1, -2, -100, -1 << 32, math.MinInt, 1048577, 1048578, 1 << 32, math.MaxInt}
}

// 16.1

func TestWrittenOut(t *testing.T) {
	for _, x := range []struct {
		plain string
		want  []byte
	}{
		{"", []byte{0x78, 1, 1, 0, 0, 0xff, 0xff, 0, 0, 0, 1}},
		{"\x00", []byte{0x78, 1, 1, 1, 0, 0xfe, 0xff, 0, 0, 1, 0, 1}},
		{"\xff", []byte{0x78, 1, 1, 1, 0, 0xfe, 0xff, 0xff, 1, 0, 1, 0}},
		{"Wikipedia", []byte{0x78, 1, 1, 9, 0, 0xf6, 0xff, 'W', 'i', 'k', 'i', 'p', 'e', 'd', 'i', 'a', 0x11, 0xe6, 0x03, 0x98}},
	} {
		if got := Pack([]byte(x.plain)); !bytes.Equal(got, x.want) {
			t.Errorf("Pack(%q) is %x, not %x", x.plain, got, x.want)
		}
		checkWhole(t, "written out", x.want, []byte(x.plain))
	}
	if got := Pack(nil); !bytes.Equal(got, []byte{0x78, 1, 1, 0, 0, 0xff, 0xff, 0, 0, 0, 1}) {
		t.Errorf("Pack(nil) is %x", got)
	}
}

// TestPackIsStored has each packed row be the head, what layer 15 stores, and
// the sum.
func TestPackIsStored(t *testing.T) {
	for _, n := range []int{0, 1, 2, 255, 256, 257, 65534, 65535, 65536, 131070, 131071, 200000} {
		for _, b := range [][]byte{rule(n, n), make([]byte, n), bytes.Repeat([]byte{255}, n)} {
			want := slices.Concat([]byte{120, 1}, inflate.Store(b), sumOf(b))
			if got := Pack(b); !bytes.Equal(got, want) {
				t.Errorf("Pack of %d bytes is other %d bytes than %d", n, len(got), len(want))
			}
		}
	}
}

// TestOtherKinds unpacks what Pack doesn't make.
func TestOtherKinds(t *testing.T) {
	checkWhole(t, "one block of Kind 1", fixed(), []byte("abcabcabc"))
	checkWhole(t, "nothing, as Kind 1", []byte{0x78, 0x9c, 3, 0, 0, 0, 0, 1}, nil)
	two := slices.Concat([]byte{0x78, 1, 0, 2, 0, 0xfd, 0xff, 'h', 'i', 3, 0}, sumOf([]byte("hi")))
	checkWhole(t, "a block of Kind 0, then one of Kind 1", two, []byte("hi"))
}

// TestBytesPartlyBegun has the last block end at each bit of a byte: the sum
// begins at the next whole one, whatever the bits between are.
func TestBytesPartlyBegun(t *testing.T) {
	for plain := range 9 {
		// So many bytes from 144 on have nine bits each, ahead of which three
		// stand and behind which seven.
		var bits []int
		bits = append(bits, 1, 1, 0)
		for range plain {
			bits = append(bits, 1, 1, 0, 0, 1, 0, 0, 0, 0) // 144
		}
		bits = append(bits, 0, 0, 0, 0, 0, 0, 0)
		for fill := range 2 {
			blocks := make([]byte, (len(bits)+7)/8)
			for i := range 8 * len(blocks) {
				if i < len(bits) && bits[i] == 1 || i >= len(bits) && fill == 1 {
					blocks[i/8] |= 1 << (i % 8)
				}
			}
			want := bytes.Repeat([]byte{144}, plain)
			checkWhole(t, "an end within a byte", slices.Concat([]byte{0x78, 1}, blocks, sumOf(want)), want)
		}
	}
}

// TestHeads has just those heads be right which the chapter names: all of them
// are tried.
func TestHeads(t *testing.T) {
	right := 0
	rest := fixed()[2:]
	for both := range 65536 {
		b := append([]byte{byte(both / 256), byte(both % 256)}, rest...)
		lower, upper := both/256%16, both/4096
		if lower == 8 && upper <= 7 && both%31 == 0 && both/32%2 == 0 {
			check(t, "a right head", b, 9, []byte("abcabcabc"), len(b), api.OK)
			right++
		} else {
			checkWrong(t, "a wrong head", b, 9, api.ErrForm)
		}
	}
	if right != 32 {
		t.Errorf("%d heads are right", right)
	}
}

// TestHeadsOneByOne has heads that have one thing wrong.
func TestHeadsOneByOne(t *testing.T) {
	rest := fixed()[2:]
	for _, x := range []struct {
		what          string
		first, second byte
		want          api.Errno
	}{
		{"reaching 7", 0x78, 0x01, api.OK},
		{"reaching 7, closer", 0x78, 0x5e, api.OK},
		{"reaching 7, closer still", 0x78, 0x9c, api.OK},
		{"reaching 7, as close as can be", 0x78, 0xda, api.OK},
		{"reaching 0", 0x08, 0x1d, api.OK},
		{"reaching 0, as close as can be", 0x08, 0xd7, api.OK},
		{"reaching 8", 0x88, 0x1c, api.ErrForm},
		{"reaching 15", 0xf8, 0x1e, api.ErrForm},
		{"another way, 7", 0x77, 0x09, api.ErrForm},
		{"another way, 9", 0x79, 0x18, api.ErrForm},
		{"another way, 0", 0x70, 0x06, api.ErrForm},
		{"no multiple, one below", 0x78, 0x00, api.ErrForm},
		{"no multiple, one above", 0x78, 0x02, api.ErrForm},
		{"turned round", 0x01, 0x78, api.ErrForm},
		{"with agreed bytes", 0x78, 0x20, api.ErrForm},
		{"with agreed bytes, closer", 0x78, 0xbb, api.ErrForm},
		{"with agreed bytes, as close as can be", 0x78, 0xf9, api.ErrForm},
	} {
		b := append([]byte{x.first, x.second}, rest...)
		if x.want == api.OK {
			checkWhole(t, x.what, b, []byte("abcabcabc"))
		} else {
			checkWrong(t, x.what, b, 9, x.want)
			checkWrong(t, x.what+", alone", b[:2], 9, x.want)
		}
	}
}

// TestReachIsNotHeld has a copy go back further than the head tells: the head
// is asked for its upper half, not for what that means.
func TestReachIsNotHeld(t *testing.T) {
	far := append(rule(3, 300), 0, 0, 0)
	// Behind 300 stored bytes stands a copy of 3 from 300 back.
	var bits []int
	bits = append(bits, 1, 1, 0)
	bits = append(bits, 0, 0, 0, 0, 0, 0, 1) // 257: 3 bytes
	bits = append(bits, 1, 0, 0, 0, 0)       // 16: from 257 on, 7 bits more
	bits = append(bits, 1, 1, 0, 1, 0, 1, 0) // 43 further
	bits = append(bits, 0, 0, 0, 0, 0, 0, 0) // 256: the end
	blocks := make([]byte, (len(bits)+7)/8)
	for i, v := range bits {
		blocks[i/8] |= byte(v << (i % 8))
	}
	copy(far[300:], far[:3])
	stored := inflate.Store(far[:300])
	stored[0] = 0
	for _, head := range [][]byte{{0x08, 0x1d}, {0x78, 0x01}} {
		checkWhole(t, "a copy from afar", slices.Concat(head, stored, blocks, sumOf(far)), far)
	}
}

func TestTooFewBytes(t *testing.T) {
	for _, b := range [][]byte{nil, {}, {0x78}, {0}, {255}} {
		for _, limit := range []int{0, 1, 1048576} {
			checkWrong(t, "no head", b, limit, api.ErrEnd)
		}
	}
	checkWrong(t, "a head alone", []byte{0x78, 1}, 0, api.ErrEnd)
	checkWrong(t, "a wrong head alone", []byte{0x78, 2}, 0, api.ErrForm)
}

// TestLimits has those that may not be be told ahead of all else.
func TestLimits(t *testing.T) {
	wrongSum := append(fixed()[:9], 0, 0, 0, 0)
	for _, limit := range wrongLimits() {
		for _, b := range [][]byte{nil, {0x78}, {0, 0}, {0x78, 1}, {0x78, 1, 7}, fixed()[:10], wrongSum, fixed()} {
			checkWrong(t, "a wrong limit", b, limit, api.ErrArg)
		}
	}
	check(t, "the greatest limit", fixed(), 1048576, []byte("abcabcabc"), 13, api.OK)
	check(t, "no bytes at all", Pack(nil), 0, nil, 11, api.OK)
	checkWrong(t, "one byte too many", Pack([]byte{1}), 0, api.ErrLong)
}

// TestErrorsOfBlocks has layer 15's errors be told behind those of the head
// and ahead of those of the sum.
func TestErrorsOfBlocks(t *testing.T) {
	for _, x := range []struct {
		what   string
		blocks []byte
		limit  int
		want   api.Errno
	}{
		{"Kind 3", []byte{7}, 100, api.ErrForm},
		{"lengths that don't fit", []byte{1, 1, 0, 1, 0, 5}, 100, api.ErrForm},
		{"a copy from ahead of the first byte", []byte{0x03, 0x02}, 100, api.ErrForm},
		{"too long", inflate.Store(rule(1, 101)), 100, api.ErrLong},
		{"the end ahead of the last block", []byte{0, 0, 0, 0xff, 0xff}, 100, api.ErrEnd},
		{"too few bytes", []byte{1, 9, 0, 0xf6, 0xff, 1, 2, 3}, 100, api.ErrEnd},
	} {
		if _, _, e := inflate.Inflate(x.blocks, x.limit); e != x.want {
			t.Fatalf("%s: layer 15 has %d", x.what, e)
		}
		checkWrong(t, x.what, slices.Concat([]byte{0x78, 1}, x.blocks), x.limit, x.want)
		checkWrong(t, x.what+", behind a wrong head", slices.Concat([]byte{0x78, 3}, x.blocks), x.limit, api.ErrForm)
		if x.want != api.ErrEnd {
			checkWrong(t, x.what+", with a sum", slices.Concat([]byte{0x78, 1}, x.blocks, []byte{0, 0, 0, 1}), x.limit, x.want)
		}
	}
}

// TestSumCutShort has each count of bytes below four behind the blocks be too
// few, also where those that there are would be wrong.
func TestSumCutShort(t *testing.T) {
	for n := range 4 {
		checkWrong(t, "right bytes", fixed()[:9+n], 9, api.ErrEnd)
		checkWrong(t, "wrong bytes", append(fixed()[:9], rule(9, n)...), 9, api.ErrEnd)
	}
}

// TestSumsOfOthers has sums that are near the right one, or the right one of
// other bytes, be wrong.
func TestSumsOfOthers(t *testing.T) {
	b, plain := fixed(), []byte("abcabcabc")
	blocks := b[2:9]
	sum := sumOf(plain)
	turned := slices.Clone(sum)
	slices.Reverse(turned)
	for _, x := range []struct {
		what string
		sum  []byte
	}{
		{"the lowest byte first", turned},
		{"the first number ahead", []byte{sum[2], sum[3], sum[0], sum[1]}},
		{"none", []byte{0, 0, 0, 0}},
		{"that of nothing", []byte{0, 0, 0, 1}},
		{"all bits", []byte{255, 255, 255, 255}},
		{"that of what is packed", sumOf(blocks)},
		{"that of the head too", sumOf(b[:9])},
		{"that of one byte less", sumOf(plain[:8])},
		{"that of another row", sumOf([]byte("abcabcacb"))},
	} {
		checkWrong(t, x.what, slices.Concat(b[:9], x.sum), 9, api.ErrSum)
		checkWrong(t, x.what+", and the right one behind", slices.Concat(b[:9], x.sum, sum), 9, api.ErrSum)
	}
	check(t, "the right one", slices.Concat(b[:9], sum), 9, plain, 13, api.OK)
	for i := range 4 {
		for v := range 256 {
			l := slices.Clone(b)
			l[9+i] = byte(v)
			if byte(v) != b[9+i] {
				checkWrong(t, "one byte another", l, 9, api.ErrSum)
			}
		}
	}
}

// TestSumsModuloTheModulus has numbers of a sum be held as they stand: one
// that is 65,521 more isn't the same.
func TestSumsModuloTheModulus(t *testing.T) {
	for _, x := range [][]byte{{0, 0, 0xff, 0xf2}, {0xff, 0xf1, 0, 1}, {0xff, 0xf1, 0xff, 0xf2}} {
		b := Pack(nil)
		copy(b[7:], x)
		checkWrong(t, "the modulus more", b, 0, api.ErrSum)
	}
}

func TestSharesNothing(t *testing.T) {
	for _, n := range []int{10, 70000} {
		b := make([]byte, n, n+100)
		copy(b, rule(1, n))
		first, second := Pack(b), Pack(b)
		if !bytes.Equal(b, rule(1, n)) || !bytes.Equal(b[n:n+100], make([]byte, 100)) {
			t.Fatal("what was handed in is changed")
		}
		clear(second)
		clear(b)
		check(t, "what was packed", first, n, rule(1, n), len(first), api.OK)
		got, _, _ := Unpack(first, n)
		again, _, _ := Unpack(first, n)
		clear(again)
		clear(first)
		if !bytes.Equal(got, rule(1, n)) {
			t.Fatal("what was unpacked shares bytes")
		}
	}
}

// 16.2

func TestPackedIsUnpacked(t *testing.T) {
	for _, n := range []int{0, 1, 2, 3, 255, 256, 257, 4096, 65534, 65535, 65536, 131069, 131070, 131071, 300000} {
		for _, b := range [][]byte{rule(n, n), make([]byte, n), bytes.Repeat([]byte{255}, n)} {
			checkWhole(t, "packed", Pack(b), b)
		}
	}
	b := rule(1, 1048576)
	check(t, "as many as may be", Pack(b), 1048576, b, len(Pack(b)), api.OK)
	b = append(b, 0)
	checkWrong(t, "one more", Pack(b), 1048576, api.ErrLong)
}

// TestPackedByChance unpacks rows by chance, several of them one behind the
// other, each from where the one ahead ends.
func TestPackedByChance(t *testing.T) {
	c := chance(16)
	for range 500 {
		var rows [][]byte
		var all []byte
		for range 1 + c.below(5) {
			row := rule(c.below(1<<30), c.below(300))
			rows = append(rows, row)
			all = append(all, Pack(row)...)
		}
		all = append(all, rule(c.below(1<<30), c.below(20))...)
		for _, row := range rows {
			got, n, e := Unpack(all, len(row))
			if !bytes.Equal(got, row) || n != len(row)+11 || e != api.OK {
				t.Fatalf("%d bytes are %d, %d, %d", len(row), len(got), n, e)
			}
			all = all[n:]
		}
	}
}

// TestPackedTwice packs what is packed, and unpacks it as often.
func TestPackedTwice(t *testing.T) {
	b := rule(7, 66000)
	twice := Pack(Pack(b))
	once, n, e := Unpack(twice, api.MaxOut)
	if n != len(twice) || e != api.OK || !bytes.Equal(once, Pack(b)) {
		t.Fatal("packed twice, unpacked once")
	}
	check(t, "packed twice, unpacked twice", once, api.MaxOut, b, len(once), api.OK)
}

// TestSumIsLayer13s holds the tests' own sum against layer 13's.
func TestSumIsLayer13s(t *testing.T) {
	for _, b := range [][]byte{nil, rule(1, 1), rule(2, 1000), bytes.Repeat([]byte{255}, 70000)} {
		v := adler.Of(b)
		if !bytes.Equal(sumOf(b), []byte{byte(v >> 24), byte(v >> 16), byte(v >> 8), byte(v)}) {
			t.Errorf("the sums of %d bytes are %x and %x", len(b), sumOf(b), v)
		}
	}
}
