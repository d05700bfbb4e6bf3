package turn

import (
	"fmt"
	"math"
	"strconv"
	"strings"
	"testing"

	"squeal/api"
	"squeal/flag"
)

// wrong are numbers that neither a turn nor a bit has.
var wrong = []int{
	-1, -2, -7, -8, 8, 9, 15, 16, 31, 32, 63, 64, 255, 256, 257,
	math.MinInt, math.MinInt + 1, math.MinInt32, math.MaxInt32, math.MaxInt - 1, math.MaxInt,
}

// some are bytes at which a bit, a half or an even number of bits changes.
var some = []uint8{0, 1, 2, 7, 8, 15, 16, 40, 64, 85, 127, 128, 129, 170, 215, 240, 254, 255}

// every calls f with each of the 256 bytes.
func every(f func(b uint8)) {
	for b := range 256 {
		f(uint8(b))
	}
}

// pairs calls f with each two bytes.
func pairs(f func(a, b uint8)) {
	every(func(a uint8) {
		every(func(b uint8) { f(a, b) })
	})
}

// told is a flags' text as a byte.
func told(t *testing.T, s string) uint8 {
	t.Helper()
	f, e := flag.Read(s)
	if e != api.OK {
		t.Fatalf("no flags: %q", s)
	}
	return f
}

// signs is b as eight signs, 0 and 1, the highest bit first.
func signs(b uint8) string { return fmt.Sprintf("%08b", b) }

// read is the byte of such signs.
func read(t *testing.T, s string) uint8 {
	t.Helper()
	n, err := strconv.ParseUint(s, 2, 8)
	if err != nil || len(s) != 8 {
		t.Fatalf("no byte: %q", s)
	}
	return uint8(n)
}

// szyxp is S, Z, Y, X and P of a byte, told by its signs.
func szyxp(r uint8) uint8 {
	s := signs(r)
	f := r&128 | r&32 | r&8
	if s == "00000000" {
		f |= 64
	}
	if strings.Count(s, "1")%2 == 0 {
		f |= 4
	}
	return f
}

// cut is b turned by cutting its signs and putting them together anew, and the
// sign that was left over.
func cut(k int, b, carry uint8) (string, string) {
	s, c := signs(b), strconv.Itoa(int(carry))
	first, last := s[:1], s[7:]
	return [8]string{
		s[1:] + first,
		last + s[:7],
		s[1:] + c,
		c + s[:7],
		s[1:] + "0",
		first + s[:7],
		s[1:] + "1",
		"0" + s[:7],
	}[k], [2]string{first, last}[k%2]
}

// 4.1

func TestDoWrittenOut(t *testing.T) {
	for _, x := range []struct {
		k int
		b uint8
		f string
		r uint8
		g string
	}{
		{rlc, 128, "--------", 1, "-------C"},
		{rlc, 0, "SZYHXPNC", 0, "-Z---P--"},
		{rlc, 0x95, "--------", 0x2b, "--Y-XP-C"},
		{rlc, 1, "-------C", 2, "--------"},
		{rrc, 1, "--------", 128, "S------C"},
		{rrc, 128, "-------C", 64, "--------"},
		{rrc, 0x51, "---H--N-", 0xa8, "S-Y-X--C"},
		{rl, 128, "--------", 0, "-Z---P-C"},
		{rl, 128, "-------C", 1, "-------C"},
		{rl, 127, "-------C", 255, "S-Y-XP--"},
		{rr, 1, "--------", 0, "-Z---P-C"},
		{rr, 1, "-------C", 128, "S------C"},
		{rr, 254, "-------C", 255, "S-Y-XP--"},
		{sla, 128, "-------C", 0, "-Z---P-C"},
		{sla, 0x55, "-------C", 0xaa, "S-Y-XP--"},
		{sra, 128, "--------", 192, "S----P--"},
		{sra, 127, "-------C", 63, "--Y-XP-C"},
		{sra, 1, "-------C", 0, "-Z---P-C"},
		{sll, 0, "--------", 1, "--------"},
		{sll, 128, "--------", 1, "-------C"},
		{sll, 255, "--------", 255, "S-Y-XP-C"},
		{srl, 128, "-------C", 64, "--------"},
		{srl, 1, "-------C", 0, "-Z---P-C"},
		{srl, 255, "SZYHXPNC", 127, "--Y-X--C"},
	} {
		if r, g := Do(x.k, x.b, told(t, x.f)); r != x.r || g != told(t, x.g) {
			t.Errorf("Do(%d, %d, %s) is %d, %s", x.k, x.b, x.f, r, flag.Show(g))
		}
	}
}

func TestTurnsAreNumberedInTheirOrder(t *testing.T) {
	want := [8]uint8{0x03, 0xc0, 0x03, 0xc0, 0x02, 0xc0, 0x03, 0x40}
	for k, r := range want {
		if got, _ := Do(k, 0x81, 1); got != r {
			t.Errorf("Do(%d, 129, 1) is %d, not %d", k, got, r)
		}
	}
	want = [8]uint8{0x03, 0xc0, 0x02, 0x40, 0x02, 0xc0, 0x03, 0x40}
	for k, r := range want {
		if got, _ := Do(k, 0x81, 254); got != r {
			t.Errorf("Do(%d, 129, 254) is %d, not %d", k, got, r)
		}
	}
}

func TestDoOfAllBytes(t *testing.T) {
	for k := range 8 {
		pairs(func(b, f uint8) {
			s, out := cut(k, b, f%2)
			want := read(t, s)
			flags := szyxp(want)
			if out == "1" {
				flags |= 1
			}
			if r, g := Do(k, b, f); r != want || g != flags {
				t.Fatalf("Do(%d, %d, %s) is %d, %s", k, b, flag.Show(f), r, flag.Show(g))
			}
		})
	}
}

func TestDoOfNoTurn(t *testing.T) {
	for _, k := range wrong {
		pairs(func(b, f uint8) {
			if r, g := Do(k, b, f); r != b || g != f {
				t.Fatalf("Do(%d, %d, %d) is %d, %d", k, b, f, r, g)
			}
		})
	}
}

// 4.2

func TestAccWrittenOut(t *testing.T) {
	for _, x := range []struct {
		k int
		a uint8
		f string
		r uint8
		g string
	}{
		{rlc, 128, "--------", 1, "-------C"},
		{rlc, 0, "SZYHXPNC", 0, "SZ---P--"},
		{rlc, 0, "--------", 0, "--------"},
		{rlc, 0x14, "-Z-H--N-", 0x28, "-ZY-X---"},
		{rrc, 1, "--------", 128, "-------C"},
		{rrc, 0x50, "S----P-C", 0x28, "S-Y-XP--"},
		{rl, 128, "-------C", 1, "-------C"},
		{rl, 128, "SZ---P--", 0, "SZ---P-C"},
		{rr, 1, "-------C", 128, "-------C"},
		{rr, 255, "---H--N-", 127, "--Y-X--C"},
	} {
		if r, g := Acc(x.k, x.a, told(t, x.f)); r != x.r || g != told(t, x.g) {
			t.Errorf("Acc(%d, %d, %s) is %d, %s", x.k, x.a, x.f, r, flag.Show(g))
		}
	}
}

func TestAccOfAllBytes(t *testing.T) {
	for k := range 4 {
		pairs(func(a, f uint8) {
			s, out := cut(k, a, f%2)
			want := read(t, s)
			flags := f&(128|64|4) | want&(32|8)
			if out == "1" {
				flags |= 1
			}
			if r, g := Acc(k, a, f); r != want || g != flags {
				t.Fatalf("Acc(%d, %d, %s) is %d, %s", k, a, flag.Show(f), r, flag.Show(g))
			}
		})
	}
}

func TestAccOfNoTurn(t *testing.T) {
	for _, k := range append([]int{4, 5, 6, 7}, wrong...) {
		pairs(func(a, f uint8) {
			if r, g := Acc(k, a, f); r != a || g != f {
				t.Fatalf("Acc(%d, %d, %d) is %d, %d", k, a, f, r, g)
			}
		})
	}
}

// 4.3

func TestBitWrittenOut(t *testing.T) {
	for _, x := range []struct {
		n     int
		b, yx uint8
		f, g  string
	}{
		{0, 1, 0, "--------", "---H----"},
		{0, 254, 0, "--------", "-Z-H-P--"},
		{7, 128, 0, "--------", "S--H----"},
		{7, 127, 0, "--------", "-Z-H-P--"},
		{7, 127, 255, "SZYHXPNC", "-ZYHXP-C"},
		{7, 255, 255, "-------C", "S-YHX--C"},
		{6, 64, 0, "SZYHXPNC", "---H---C"},
		{6, 255, 8, "------N-", "---HX---"},
		{5, 32, 0, "--------", "---H----"},
		{5, 0, 32, "--------", "-ZYH-P--"},
		{3, 8, 32, "--Y-X---", "--YH----"},
		{3, 247, 215, "-------C", "-Z-H-P-C"},
	} {
		if g := Bit(x.n, x.b, x.yx, told(t, x.f)); g != told(t, x.g) {
			t.Errorf("Bit(%d, %d, %d, %s) is %s", x.n, x.b, x.yx, x.f, flag.Show(g))
		}
	}
}

// checkBit holds Bit against the sign at the bit's place.
func checkBit(t *testing.T, n int, b, yx, f uint8) {
	t.Helper()
	want := f%2 | 16 | yx&32 | yx&8
	if signs(b)[7-n] == '0' {
		want |= 64 | 4
	} else if n == 7 {
		want |= 128
	}
	if g := Bit(n, b, yx, f); g != want {
		t.Fatalf("Bit(%d, %d, %d, %s) is %s", n, b, yx, flag.Show(f), flag.Show(g))
	}
}

func TestBitOfAllBytes(t *testing.T) {
	for n := range 8 {
		pairs(func(b, x uint8) {
			for _, f := range []uint8{0, 1, 254, 255} {
				checkBit(t, n, b, x, f)
			}
			for _, yx := range []uint8{0, 8, 32, 215, 255} {
				checkBit(t, n, b, yx, x)
			}
		})
	}
}

func TestSetAndResOfAllBytes(t *testing.T) {
	for n := range 8 {
		every(func(b uint8) {
			s := signs(b)
			front, behind := s[:7-n], s[8-n:]
			if got := Set(n, b); got != read(t, front+"1"+behind) {
				t.Errorf("Set(%d, %d) is %d", n, b, got)
			}
			if got := Res(n, b); got != read(t, front+"0"+behind) {
				t.Errorf("Res(%d, %d) is %d", n, b, got)
			}
		})
	}
	if Set(0, 0) != 1 || Set(7, 0) != 128 || Res(0, 255) != 254 || Res(7, 255) != 127 {
		t.Error("bytes that are written out")
	}
}

func TestNoBit(t *testing.T) {
	for _, n := range wrong {
		pairs(func(b, f uint8) {
			for _, yx := range []uint8{0, 255} {
				if g := Bit(n, b, yx, f); g != f {
					t.Fatalf("Bit(%d, %d, %d, %d) is %d", n, b, yx, f, g)
				}
			}
		})
		every(func(b uint8) {
			if set, res := Set(n, b), Res(n, b); set != b || res != b {
				t.Errorf("Set(%d, %d) is %d, Res %d", n, b, set, res)
			}
		})
	}
}

// 4.4

func TestDigitsWrittenOut(t *testing.T) {
	for _, x := range []struct {
		a, m       uint8
		f          string
		upA, upM   uint8
		upF        string
		downA, dnM uint8
		downF      string
	}{
		{0x12, 0x34, "--------", 0x13, 0x42, "--------", 0x14, 0x23, "-----P--"},
		{0x12, 0x34, "SZYHXPNC", 0x13, 0x42, "-------C", 0x14, 0x23, "-----P-C"},
		{0x00, 0x00, "------N-", 0x00, 0x00, "-Z---P--", 0x00, 0x00, "-Z---P--"},
		{0x0f, 0x00, "-------C", 0x00, 0x0f, "-Z---P-C", 0x00, 0xf0, "-Z---P-C"},
		{0x00, 0x0f, "---H----", 0x00, 0xf0, "-Z---P--", 0x0f, 0x00, "----XP--"},
		{0xf0, 0xf0, "--------", 0xff, 0x00, "S-Y-XP--", 0xf0, 0x0f, "S-Y--P--"},
		{0xa5, 0xc3, "-------C", 0xac, 0x35, "S-Y-XP-C", 0xa3, 0x5c, "S-Y--P-C"},
	} {
		f := told(t, x.f)
		if a, m, g := Rld(x.a, x.m, f); a != x.upA || m != x.upM || g != told(t, x.upF) {
			t.Errorf("Rld(%#x, %#x, %s) is %#x, %#x, %s", x.a, x.m, x.f, a, m, flag.Show(g))
		}
		if a, m, g := Rrd(x.a, x.m, f); a != x.downA || m != x.dnM || g != told(t, x.downF) {
			t.Errorf("Rrd(%#x, %#x, %s) is %#x, %#x, %s", x.a, x.m, x.f, a, m, flag.Show(g))
		}
	}
}

// checkDigits holds both calls against signs that are cut at the halves.
func checkDigits(t *testing.T, a, m, f uint8) {
	t.Helper()
	s, x := signs(a), signs(m)
	wantA, wantM := read(t, s[:4]+x[:4]), read(t, x[4:]+s[4:])
	if b, n, g := Rld(a, m, f); b != wantA || n != wantM || g != szyxp(wantA)|f%2 {
		t.Fatalf("Rld(%#x, %#x, %s) is %#x, %#x, %s", a, m, flag.Show(f), b, n, flag.Show(g))
	}
	wantA, wantM = read(t, s[:4]+x[4:]), read(t, s[4:]+x[:4])
	if b, n, g := Rrd(a, m, f); b != wantA || n != wantM || g != szyxp(wantA)|f%2 {
		t.Fatalf("Rrd(%#x, %#x, %s) is %#x, %#x, %s", a, m, flag.Show(f), b, n, flag.Show(g))
	}
}

func TestDigitsOfAllBytes(t *testing.T) {
	pairs(func(a, m uint8) {
		for _, f := range []uint8{0, 1, 254, 255} {
			checkDigits(t, a, m, f)
		}
	})
}

func TestDigitsWithAllFlags(t *testing.T) {
	for _, a := range some {
		for _, m := range some {
			every(func(f uint8) { checkDigits(t, a, m, f) })
		}
	}
}

// 4.5

func TestRrdUndoesRld(t *testing.T) {
	pairs(func(a, m uint8) {
		for _, f := range []uint8{0, 1} {
			b, n, g := Rld(a, m, f)
			if backA, backM, h := Rrd(b, n, g); backA != a || backM != m || h%2 != f {
				t.Fatalf("%#x, %#x came back as %#x, %#x", a, m, backA, backM)
			}
			b, n, g = Rrd(a, m, f)
			if backA, backM, h := Rld(b, n, g); backA != a || backM != m || h%2 != f {
				t.Fatalf("%#x, %#x came back as %#x, %#x", a, m, backA, backM)
			}
		}
	})
}

func TestRrcUndoesRlc(t *testing.T) {
	pairs(func(b, f uint8) {
		for _, do := range []func(int, uint8, uint8) (uint8, uint8){Do, Acc} {
			r, g := do(rlc, b, f)
			// The way back doesn't hang on C.
			for _, h := range []uint8{g, g ^ 1} {
				if back, _ := do(rrc, r, h); back != b {
					t.Fatalf("%d came back as %d", b, back)
				}
			}
		}
	})
}

func TestRrUndoesRlWithItsC(t *testing.T) {
	pairs(func(b, f uint8) {
		for _, do := range []func(int, uint8, uint8) (uint8, uint8){Do, Acc} {
			r, g := do(rl, b, f)
			if back, h := do(rr, r, g); back != b || h%2 != f%2 {
				t.Fatalf("%d, %d came back as %d, %d", b, f, back, h)
			}
		}
	})
}
