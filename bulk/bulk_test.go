package bulk

import (
	"math/bits"
	"testing"

	"squeal/api"
	"squeal/flag"
)

// some are bytes at which a bit, a half or an even number of bits changes.
var some = []uint8{0, 1, 2, 7, 8, 10, 15, 16, 17, 32, 40, 85, 127, 128, 129, 170, 215, 240, 247, 254, 255}

// words are what may be left in BC, and where PC may be: nothing, each byte
// alone, the bits 13 and 11 alone, all others, and all of them.
var words = []uint16{0, 1, 255, 256, 0x0028, 0x0800, 0x1000, 0x2000, 0x2800, 0x4000, 0x8000, 0xd7ff, 0xf7ff, 0xdfff, 0xffff}

// every calls f with each of the 256 bytes.
func every(f func(b uint8)) {
	for b := range 256 {
		f(uint8(b))
	}
}

// pairs calls f with each two bytes.
func pairs(f func(a, b uint8)) {
	every(func(a uint8) {
		every(func(b uint8) { f(a, b) })
	})
}

// told is a flags' text as a byte.
func told(t *testing.T, s string) uint8 {
	t.Helper()
	f, e := flag.Read(s)
	if e != api.OK {
		t.Fatalf("no flags: %q", s)
	}
	return f
}

// bit is n, if on.
func bit(n uint8, on bool) uint8 {
	if on {
		return n
	}
	return 0
}

func odd(n int) bool { return bits.OnesCount(uint(n))%2 == 1 }

// yx is Y and X as the bits 1 and 3 of a number, by division.
func yx(n int) uint8 {
	n = (n + 512) % 256
	return bit(32, n/2%2 == 1) | bit(8, n/8%2 == 1)
}

// yxOf is Y and X as the bits 13 and 11 of pc, by division.
func yxOf(pc uint16) uint8 {
	return bit(32, pc/8192%2 == 1) | bit(8, pc/2048%2 == 1)
}

// 5.1

func TestCopyWrittenOut(t *testing.T) {
	for _, x := range []struct {
		a, v uint8
		bc   uint16
		f, g string
	}{
		{0, 2, 1, "-------C", "--Y--P-C"},
		{0, 2, 0, "-------C", "--Y----C"},
		{0, 0, 0, "SZYHXPNC", "SZ-----C"},
		{0, 0, 1, "SZYHXPNC", "SZ---P-C"},
		{0, 0, 256, "--------", "-----P--"},
		{0, 0, 65535, "--------", "-----P--"},
		{0, 8, 0, "--------", "----X---"},
		{8, 2, 0, "--------", "--Y-X---"},
		{255, 3, 0, "--------", "--Y-----"},
		{255, 11, 0, "--------", "--Y-X---"},
		{255, 1, 0, "--------", "--------"},
		{245, 0, 0, "--------", "--------"},
		{32, 0, 0, "--------", "--------"},
		{128, 0, 0, "-Z------", "-Z------"},
	} {
		if g := Copy(x.a, x.v, x.bc, told(t, x.f)); g != told(t, x.g) {
			t.Errorf("Copy(%d, %d, %d, %s) is %s", x.a, x.v, x.bc, x.f, flag.Show(g))
		}
	}
	if g := Copy(0, 2, 1, 1); g != 37 {
		t.Errorf("Copy(0, 2, 1, 1) is %d", g)
	}
}

func TestFindWrittenOut(t *testing.T) {
	for _, x := range []struct {
		a, v uint8
		bc   uint16
		f, g string
	}{
		{0, 0, 0, "--------", "-Z----N-"},
		{0, 0, 1, "-------C", "-Z---PNC"},
		{0, 0, 0, "SZYHXPNC", "-Z----NC"},
		{0, 1, 0, "--------", "S-YHX-N-"},
		{16, 1, 0, "-------C", "--YHX-NC"},
		{16, 6, 0, "--------", "---HX-N-"},
		{16, 7, 0, "--------", "---HX-N-"},
		{16, 8, 0, "--------", "--YH--N-"},
		{15, 5, 0, "---H----", "--Y-X-N-"},
		{128, 1, 0, "--------", "--YHX-N-"},
		{128, 1, 256, "--------", "--YHXPN-"},
		{15, 15, 0, "SZYHXPN-", "-Z----N-"},
		{34, 0, 0, "--------", "--Y---N-"},
		{32, 0, 0, "--------", "------N-"},
		{1, 17, 0, "--------", "S-----N-"},
		{1, 17, 65535, "-------C", "S----PNC"},
	} {
		if g := Find(x.a, x.v, x.bc, told(t, x.f)); g != told(t, x.g) {
			t.Errorf("Find(%d, %d, %d, %s) is %s", x.a, x.v, x.bc, x.f, flag.Show(g))
		}
	}
}

// checkCopy holds Copy against flags that are put together anew.
func checkCopy(t *testing.T, a, v uint8, bc uint16, f uint8) {
	t.Helper()
	want := f&(128|64|1) | yx(int(a)+int(v)) | bit(4, bc > 0)
	if g := Copy(a, v, bc, f); g != want {
		t.Fatalf("Copy(%d, %d, %d, %s) is %s", a, v, bc, flag.Show(f), flag.Show(g))
	}
}

// checkFind holds Find against flags that are put together anew.
func checkFind(t *testing.T, a, v uint8, bc uint16, f uint8) {
	t.Helper()
	n := int(a) - int(v)
	want := bit(128, (n+256)%256 > 127) | bit(64, a == v) | 2 | bit(4, bc > 0) | f%2
	if a%16 < v%16 {
		want |= 16
		n--
	}
	want |= yx(n)
	if g := Find(a, v, bc, f); g != want {
		t.Fatalf("Find(%d, %d, %d, %s) is %s", a, v, bc, flag.Show(f), flag.Show(g))
	}
}

func TestCopyAndFindOfAllBytes(t *testing.T) {
	pairs(func(a, v uint8) {
		for _, bc := range words {
			for _, f := range []uint8{0, 1, 254, 255} {
				checkCopy(t, a, v, bc, f)
				checkFind(t, a, v, bc, f)
			}
		}
	})
}

func TestCopyAndFindWithAllFlags(t *testing.T) {
	for _, a := range some {
		for _, v := range some {
			every(func(f uint8) {
				for _, bc := range []uint16{0, 1} {
					checkCopy(t, a, v, bc, f)
					checkFind(t, a, v, bc, f)
				}
			})
		}
	}
}

func TestCopyAndFindWithAllThatMayBeLeft(t *testing.T) {
	for bc := range 65536 {
		for _, f := range []uint8{0, 255} {
			checkCopy(t, 0, 0, uint16(bc), f)
			checkFind(t, 128, 1, uint16(bc), f)
			checkFind(t, 7, 7, uint16(bc), f)
		}
	}
}

// 5.2

func TestPortWrittenOut(t *testing.T) {
	for _, x := range []struct {
		v, k, b uint8
		g       string
	}{
		{0, 0, 0, "-Z---P--"},
		{128, 0, 0, "-Z---PN-"},
		{255, 0, 0, "-Z----N-"},
		{255, 1, 0, "-Z-H-PNC"},
		{0, 255, 0, "-Z------"},
		{1, 255, 0, "-Z-H-P-C"},
		{127, 128, 1, "-----P--"},
		{127, 129, 40, "--YHXP-C"},
		{1, 0, 255, "S-Y-X---"},
		{3, 0, 1, "--------"},
		{3, 0, 0, "-Z---P--"},
		{255, 255, 128, "S--H--NC"},
		{8, 0, 16, "--------"},
		{8, 0, 0, "-Z---P--"},
		{0, 0, 64, "--------"},
	} {
		if g := Port(x.v, x.k, x.b); g != told(t, x.g) {
			t.Errorf("Port(%d, %d, %d) is %s", x.v, x.k, x.b, flag.Show(g))
		}
	}
}

func TestPortOfAllBytes(t *testing.T) {
	pairs(func(v, k uint8) {
		sum := int(v) + int(k)
		var fromByte uint8
		if v > 127 {
			fromByte = 2
		}
		if sum >= 256 {
			fromByte |= 16 | 1
		}
		every(func(b uint8) {
			want := fromByte | b&128 | bit(64, b == 0) | b&32 | b&8 | bit(4, odd(sum%8) == odd(int(b)))
			if g := Port(v, k, b); g != want {
				t.Fatalf("Port(%d, %d, %d) is %s", v, k, b, flag.Show(g))
			}
		})
	})
}

// 5.3

func TestAgainWrittenOut(t *testing.T) {
	for _, x := range []struct {
		f  string
		pc uint16
		g  string
	}{
		{"--------", 0, "--------"},
		{"SZYHXPNC", 0, "SZ-H-PNC"},
		{"--------", 0x2000, "--Y-----"},
		{"--------", 0x0800, "----X---"},
		{"--Y-----", 0x0800, "----X---"},
		{"--------", 0x2800, "--Y-X---"},
		{"--------", 0x0028, "--------"},
		{"SZYHXPNC", 0xd7ff, "SZ-H-PNC"},
		{"--------", 0xffff, "--Y-X---"},
		{"SZ-H-PNC", 0xffff, "SZYHXPNC"},
	} {
		if g := Again(told(t, x.f), x.pc); g != told(t, x.g) {
			t.Errorf("Again(%s, %#x) is %s", x.f, x.pc, flag.Show(g))
		}
	}
}

func TestAgainOfAllFlagsAndPlaces(t *testing.T) {
	for pc := range 65536 {
		pc := uint16(pc)
		every(func(f uint8) {
			if g := Again(f, pc); g != f&(128|64|16|4|2|1)|yxOf(pc) {
				t.Fatalf("Again(%s, %#x) is %s", flag.Show(f), pc, flag.Show(g))
			}
		})
	}
}

func TestPortAgainWrittenOut(t *testing.T) {
	for _, x := range []struct {
		f    string
		v, b uint8
		pc   uint16
		g    string
	}{
		// Without C.
		{"--------", 0, 0, 0, "--------"},
		{"--------", 0, 1, 0, "-----P--"},
		{"-----P--", 0, 1, 0, "--------"},
		{"-----P--", 0, 3, 0, "-----P--"},
		{"--------", 0, 8, 0, "--------"},
		{"--------", 0, 9, 0, "-----P--"},
		{"--------", 255, 7, 0, "-----P--"},
		{"--------", 128, 0, 0, "--------"},
		{"---H----", 128, 1, 0, "---H-P--"},
		{"--------", 0, 15, 0, "-----P--"},
		{"---H----", 0, 14, 0, "---H----"},
		{"SZ----N-", 0, 0, 0xffff, "SZY-X-N-"},
		// With C and v's bit 7.
		{"-------C", 128, 1, 0, "-------C"},
		{"---H---C", 128, 1, 0, "-------C"},
		{"-------C", 128, 0, 0, "---H-P-C"},
		{"---H-P-C", 128, 16, 0, "---H---C"},
		{"---H---C", 255, 15, 0, "-------C"},
		{"---H---C", 255, 2, 0, "-----P-C"},
		{"---H-P-C", 128, 4, 0, "-----P-C"},
		{"SZYHXPNC", 128, 0, 0, "SZ-H--NC"},
		{"S--H--NC", 128, 129, 0x2000, "S-Y---NC"},
		// With C, without that bit.
		{"-------C", 127, 15, 0, "---H---C"},
		{"-----P-C", 0, 255, 0, "---H-P-C"},
		{"---H---C", 127, 0, 0, "-----P-C"},
		{"---H-P-C", 0, 16, 0, "-------C"},
		{"---H---C", 0, 2, 0, "-------C"},
		{"---H---C", 0, 7, 0, "-------C"},
		{"---H---C", 1, 6, 0, "-----P-C"},
		{"SZ-H-P-C", 0, 14, 0x0800, "SZ--X--C"},
	} {
		if g := PortAgain(told(t, x.f), x.v, x.b, x.pc); g != told(t, x.g) {
			t.Errorf("PortAgain(%s, %d, %d, %#x) is %s", x.f, x.v, x.b, x.pc, flag.Show(g))
		}
	}
}

// checkPortAgain holds PortAgain against flags that are put together anew.
func checkPortAgain(t *testing.T, f, v, b uint8, pc uint16) {
	t.Helper()
	n, h := int(b), f/16%2 == 1
	if f%2 == 1 {
		if v > 127 {
			n, h = n+255, b%16 == 0
		} else {
			n, h = n+1, b%16 == 15
		}
	}
	p := (f/4%2 == 1) != odd(n%8)
	want := f&(128|64|2|1) | yxOf(pc) | bit(16, h) | bit(4, p)
	if g := PortAgain(f, v, b, pc); g != want {
		t.Fatalf("PortAgain(%s, %d, %d, %#x) is %s", flag.Show(f), v, b, pc, flag.Show(g))
	}
}

func TestPortAgainOfAllFlagsAndB(t *testing.T) {
	pairs(func(f, b uint8) {
		for _, v := range some {
			for _, pc := range []uint16{0, 0x2000, 0x0800, 0xd7ff, 0xffff} {
				checkPortAgain(t, f, v, b, pc)
			}
		}
	})
}

func TestPortAgainOfAllBytes(t *testing.T) {
	pairs(func(v, b uint8) {
		for _, f := range []uint8{0, 1, 4, 5, 16, 17, 20, 21, 234, 235, 254, 255} {
			for _, pc := range words {
				checkPortAgain(t, f, v, b, pc)
			}
		}
	})
}

// 5.4

func TestCopyAndFindLeaveC(t *testing.T) {
	pairs(func(a, v uint8) {
		for _, bc := range []uint16{0, 1, 0xffff} {
			for _, f := range []uint8{0, 1, 254, 255} {
				if Copy(a, v, bc, f)%2 != f%2 || Find(a, v, bc, f)%2 != f%2 {
					t.Fatalf("C of %s went, with %d, %d, %d", flag.Show(f), a, v, bc)
				}
			}
		}
	})
}

func TestWhatGoesOnHasTheSame(t *testing.T) {
	const same = 128 | 64 | 2 | 1
	pairs(func(f, b uint8) {
		for _, pc := range words {
			if g := Again(f, pc); g&same != f&same {
				t.Fatalf("Again(%s, %#x) is %s", flag.Show(f), pc, flag.Show(g))
			}
			for _, v := range []uint8{0, 127, 128, 255} {
				if g := PortAgain(f, v, b, pc); g&same != f&same {
					t.Fatalf("PortAgain(%s, %d, %d, %#x) is %s", flag.Show(f), v, b, pc, flag.Show(g))
				}
			}
		}
	})
}
