package alu

import (
	"math"
	"math/bits"
	"testing"

	"squeal/api"
	"squeal/flag"
)

// every calls f with each of the 256 bytes.
func every(f func(b uint8)) {
	for b := range 256 {
		f(uint8(b))
	}
}

// pairs calls f with each two bytes.
func pairs(f func(a, b uint8)) {
	every(func(a uint8) {
		every(func(b uint8) { f(a, b) })
	})
}

// told is a flags' text as a byte.
func told(t *testing.T, s string) uint8 {
	t.Helper()
	f, e := flag.Read(s)
	if e != api.OK {
		t.Fatalf("no flags: %q", s)
	}
	return f
}

// bit is n, if on.
func bit(n uint8, on bool) uint8 {
	if on {
		return n
	}
	return 0
}

// szyx is S, Z, Y, X of r, put together from nothing of the program.
func szyx(r uint8) uint8 {
	return r&128 | bit(64, r == 0) | r&32 | r&8
}

func even(r uint8) bool { return bits.OnesCount8(r)%2 == 0 }

// 2.1

func TestAddWrittenOut(t *testing.T) {
	for _, x := range []struct {
		a, b  uint8
		carry bool
		r     uint8
		f     string
	}{
		{0, 0, false, 0, "-Z------"},
		{0, 0, true, 1, "--------"},
		{127, 1, false, 128, "S--H-P--"},
		{127, 0, true, 128, "S--H-P--"},
		{128, 128, false, 0, "-Z---P-C"},
		{128, 127, true, 0, "-Z-H---C"},
		{128, 127, false, 255, "S-Y-X---"},
		{255, 1, false, 0, "-Z-H---C"},
		{255, 255, true, 255, "S-YHX--C"},
		{255, 255, false, 254, "S-YHX--C"},
		{255, 0, true, 0, "-Z-H---C"},
		{15, 1, false, 16, "---H----"},
		{15, 0, true, 16, "---H----"},
		{14, 1, false, 15, "----X---"},
		{128, 255, false, 127, "--Y-XP-C"},
		{128, 255, true, 128, "S--H---C"},
		{32, 8, false, 40, "--Y-X---"},
	} {
		if r, f := Add(x.a, x.b, x.carry); r != x.r || f != told(t, x.f) {
			t.Errorf("Add(%d, %d, %v) is %d, %s", x.a, x.b, x.carry, r, flag.Show(f))
		}
	}
}

func TestSubWrittenOut(t *testing.T) {
	for _, x := range []struct {
		a, b  uint8
		carry bool
		r     uint8
		f     string
	}{
		{0, 0, false, 0, "-Z----N-"},
		{0, 0, true, 255, "S-YHX-NC"},
		{0, 1, false, 255, "S-YHX-NC"},
		{128, 1, false, 127, "--YHXPN-"},
		{128, 0, true, 127, "--YHXPN-"},
		{127, 255, false, 128, "S----PNC"},
		{127, 255, true, 127, "--YHX-NC"},
		{0, 128, false, 128, "S----PNC"},
		{0, 127, true, 128, "S--H--NC"},
		{0, 255, true, 0, "-Z-H--NC"},
		{16, 1, false, 15, "---HX-N-"},
		{16, 0, true, 15, "---HX-N-"},
		{15, 15, false, 0, "-Z----N-"},
		{15, 15, true, 255, "S-YHX-NC"},
		{255, 255, false, 0, "-Z----N-"},
		{60, 20, false, 40, "--Y-X-N-"},
	} {
		if r, f := Sub(x.a, x.b, x.carry); r != x.r || f != told(t, x.f) {
			t.Errorf("Sub(%d, %d, %v) is %d, %s", x.a, x.b, x.carry, r, flag.Show(f))
		}
	}
}

// The sums are reckoned bit by bit here: a bit's carry is the majority of three.
func TestAddOfAllBytes(t *testing.T) {
	for _, carry := range []bool{false, true} {
		pairs(func(a, b uint8) {
			var r uint8
			var into [9]uint8
			into[0] = bit(1, carry)
			for k := range 8 {
				x, y := a>>k&1, b>>k&1
				r |= (x ^ y ^ into[k]) << k
				into[k+1] = x&y | x&into[k] | y&into[k]
			}
			want := szyx(r) | into[4]<<4 | (into[8]^into[7])<<2 | into[8]
			if got, f := Add(a, b, carry); got != r || f != want {
				t.Fatalf("Add(%d, %d, %v) is %d, %s", a, b, carry, got, flag.Show(f))
			}
		})
	}
}

func TestSubOfAllBytes(t *testing.T) {
	for _, carry := range []bool{false, true} {
		pairs(func(a, b uint8) {
			var r uint8
			var into [9]uint8
			into[0] = bit(1, carry)
			for k := range 8 {
				x, y := a>>k&1, b>>k&1
				r |= (x ^ y ^ into[k]) << k
				into[k+1] = (1-x)&y | (1-x)&into[k] | y&into[k]
			}
			want := szyx(r) | into[4]<<4 | (into[8]^into[7])<<2 | 2 | into[8]
			if got, f := Sub(a, b, carry); got != r || f != want {
				t.Fatalf("Sub(%d, %d, %v) is %d, %s", a, b, carry, got, flag.Show(f))
			}
		})
	}
}

func TestCp(t *testing.T) {
	for _, x := range []struct {
		a, b uint8
		f    string
	}{
		{0, 0, "-Z----N-"},
		{40, 40, "-ZY-X-N-"},
		{255, 255, "-ZY-X-N-"},
		{0, 40, "S-YHX-NC"},
		{0, 8, "S--HX-NC"},
		{40, 0, "------N-"},
		{128, 1, "---H-PN-"},
		{255, 0, "S-----N-"},
	} {
		if f := Cp(x.a, x.b); f != told(t, x.f) {
			t.Errorf("Cp(%d, %d) is %s", x.a, x.b, flag.Show(f))
		}
	}
	pairs(func(a, b uint8) {
		_, f := Sub(a, b, false)
		if got := Cp(a, b); got != f&0xd7|b&0x28 {
			t.Fatalf("Cp(%d, %d) is %s", a, b, flag.Show(got))
		}
	})
}

// 2.2

func TestBitByBit(t *testing.T) {
	pairs(func(a, b uint8) {
		var and, xor, or uint8
		for k := range 8 {
			switch a>>k&1 + b>>k&1 {
			case 2:
				and |= 1 << k
				or |= 1 << k
			case 1:
				xor |= 1 << k
				or |= 1 << k
			}
		}
		for _, x := range []struct {
			name string
			do   func(a, b uint8) (uint8, uint8)
			r, h uint8
		}{
			{"And", And, and, 16},
			{"Xor", Xor, xor, 0},
			{"Or", Or, or, 0},
		} {
			want := szyx(x.r) | bit(4, even(x.r)) | x.h
			if r, f := x.do(a, b); r != x.r || f != want {
				t.Fatalf("%s(%d, %d) is %d, %s", x.name, a, b, r, flag.Show(f))
			}
		}
	})
}

func TestBitByBitWrittenOut(t *testing.T) {
	if r, f := And(0xf0, 0x0f); r != 0 || f != told(t, "-Z-H-P--") {
		t.Errorf("And is %d, %s", r, flag.Show(f))
	}
	if r, f := Xor(0xaa, 0x2b); r != 0x81 || f != told(t, "S----P--") {
		t.Errorf("Xor is %d, %s", r, flag.Show(f))
	}
	if r, f := Or(0x20, 0x0c); r != 0x2c || f != told(t, "--Y-X---") {
		t.Errorf("Or is %d, %s", r, flag.Show(f))
	}
}

func TestDo(t *testing.T) {
	for f := range 256 {
		f := uint8(f)
		carry := f&1 != 0
		for _, a := range []uint8{0, 1, 15, 16, 40, 127, 128, 154, 254, 255} {
			for _, b := range []uint8{0, 1, 15, 16, 40, 127, 128, 154, 254, 255} {
				var r, g [8]uint8
				r[0], g[0] = Add(a, b, false)
				r[1], g[1] = Add(a, b, carry)
				r[2], g[2] = Sub(a, b, false)
				r[3], g[3] = Sub(a, b, carry)
				r[4], g[4] = And(a, b)
				r[5], g[5] = Xor(a, b)
				r[6], g[6] = Or(a, b)
				r[7], g[7] = a, Cp(a, b)
				for k := range 8 {
					if x, y := Do(k, a, b, f); x != r[k] || y != g[k] {
						t.Fatalf("Do(%d, %d, %d, %d) is %d, %s", k, a, b, f, x, flag.Show(y))
					}
				}
			}
		}
	}
}

func TestDoOfNoOperation(t *testing.T) {
	for _, k := range []int{-1, -2, -7, -8, 8, 9, 15, 16, 255, 256, 263, math.MinInt, math.MaxInt} {
		pairs(func(a, f uint8) {
			if x, y := Do(k, a, a^f^77, f); x != a || y != f {
				t.Fatalf("Do(%d, %d, .., %d) is %d, %d", k, a, f, x, y)
			}
		})
	}
}

// 2.3

func TestIncAndDec(t *testing.T) {
	pairs(func(a, f uint8) {
		up := a + 1
		want := szyx(up) | bit(16, a%16 == 15) | bit(4, a == 127) | f&1
		if r, g := Inc(a, f); r != up || g != want {
			t.Fatalf("Inc(%d, %d) is %d, %s", a, f, r, flag.Show(g))
		}
		down := a - 1
		want = szyx(down) | bit(16, a%16 == 0) | bit(4, a == 128) | 2 | f&1
		if r, g := Dec(a, f); r != down || g != want {
			t.Fatalf("Dec(%d, %d) is %d, %s", a, f, r, flag.Show(g))
		}
	})
}

func TestNeg(t *testing.T) {
	every(func(a uint8) {
		r := uint8((256 - int(a)) % 256)
		want := szyx(r) | bit(16, a%16 != 0) | bit(4, a == 128) | 2 | bit(1, a != 0)
		if got, f := Neg(a); got != r || f != want {
			t.Errorf("Neg(%d) is %d, %s", a, got, flag.Show(f))
		}
	})
}

func TestCpl(t *testing.T) {
	pairs(func(a, f uint8) {
		r := 255 - a
		want := f&(128|64|4|1) | r&(32|8) | 16 | 2
		if got, g := Cpl(a, f); got != r || g != want {
			t.Fatalf("Cpl(%d, %d) is %d, %s", a, f, got, flag.Show(g))
		}
	})
}

// 2.4

func TestDaaWrittenOut(t *testing.T) {
	for _, x := range []struct {
		a uint8
		f string
		r uint8
		g string
	}{
		{0, "--------", 0, "-Z---P--"},
		{154, "--------", 0, "-Z-H-P-C"},
		{153, "--------", 153, "S---XP--"},
		{9, "--------", 9, "----XP--"},
		{10, "--------", 16, "---H----"},
		{0, "---H----", 6, "-----P--"},
		{0, "-------C", 96, "--Y--P-C"},
		{0, "---H---C", 102, "--Y--P-C"},
		{160, "--------", 0, "-Z---P-C"},
		{255, "--------", 101, "--YH-P-C"},
		{0, "------N-", 0, "-Z---PN-"},
		{5, "---H--N-", 255, "S-YHXPN-"},
		{6, "---H--N-", 0, "-Z---PN-"},
		{10, "------N-", 4, "------N-"},
		{154, "------N-", 52, "--Y---NC"},
		{0, "---H--NC", 154, "S--HXPNC"},
		{255, "---H--NC", 153, "S---XPNC"},
		{153, "SZY-XPN-", 153, "S---XPN-"},
	} {
		if r, g := Daa(x.a, told(t, x.f)); r != x.r || g != told(t, x.g) {
			t.Errorf("Daa(%d, %s) is %d, %s", x.a, x.f, r, flag.Show(g))
		}
	}
}

func TestDaaOfAllBytes(t *testing.T) {
	pairs(func(a, f uint8) {
		h, n, c := f>>4&1 == 1, f>>1&1 == 1, f&1 == 1
		d, high := 0, c || a >= 154
		if h || a%16 >= 10 {
			d = 6
		}
		if high {
			d += 96
		}
		half := a%16 >= 10
		if n {
			d = 256 - d
			half = h && a%16 <= 5
		}
		r := uint8((int(a) + d) % 256)
		want := szyx(r) | bit(4, even(r)) | bit(16, half) | bit(2, n) | bit(1, high)
		if got, g := Daa(a, f); got != r || g != want {
			t.Fatalf("Daa(%d, %s) is %d, %s", a, flag.Show(f), got, flag.Show(g))
		}
	})
}

// 2.5

func TestScfAndCcf(t *testing.T) {
	for _, q := range []uint8{0, 1, 8, 32, 40, 65, 170, 215, 254, 255} {
		pairs(func(a, f uint8) {
			yx := ((q &^ f) | (f &^ q) | a) & 40
			want := f&(128|64|4) | yx | 1
			if g := Scf(a, f, q); g != want {
				t.Fatalf("Scf(%d, %s, %d) is %s", a, flag.Show(f), q, flag.Show(g))
			}
			want = f&(128|64|4) | yx
			if f%2 == 1 {
				want |= 16
			} else {
				want |= 1
			}
			if g := Ccf(a, f, q); g != want {
				t.Fatalf("Ccf(%d, %s, %d) is %s", a, flag.Show(f), q, flag.Show(g))
			}
		})
	}
}

func TestScfAndCcfWrittenOut(t *testing.T) {
	for _, x := range []struct {
		a, f, q  uint8
		scf, ccf string
	}{
		{0, 0, 0, "-------C", "-------C"},
		{0, 255, 255, "SZ---P-C", "SZ-H-P--"},
		{0, 255, 0, "SZY-XP-C", "SZYHXP--"},
		{0, 0, 255, "--Y-X--C", "--Y-X--C"},
		{8, 0, 0, "----X--C", "----X--C"},
		{32, 255, 255, "SZY--P-C", "SZYH-P--"},
		{215, 18, 18, "-------C", "-------C"},
	} {
		if g := Scf(x.a, x.f, x.q); g != told(t, x.scf) {
			t.Errorf("Scf(%d, %d, %d) is %s", x.a, x.f, x.q, flag.Show(g))
		}
		if g := Ccf(x.a, x.f, x.q); g != told(t, x.ccf) {
			t.Errorf("Ccf(%d, %d, %d) is %s", x.a, x.f, x.q, flag.Show(g))
		}
	}
}

// 2.6

func TestAddedAndSubtractedIsBack(t *testing.T) {
	for _, carry := range []bool{false, true} {
		pairs(func(a, b uint8) {
			sum, _ := Add(a, b, carry)
			if back, _ := Sub(sum, b, carry); back != a {
				t.Fatalf("%d and %d less %d (%v) is %d", a, b, b, carry, back)
			}
			rest, _ := Sub(a, b, carry)
			if back, _ := Add(rest, b, carry); back != a {
				t.Fatalf("%d less %d and %d (%v) is %d", a, b, b, carry, back)
			}
		})
	}
}

// digits is a number below 100 with a half of a byte for each of its digits.
func digits(n int) uint8 { return uint8(n/10*16 + n%10) }

func TestDigitsAreAddedAndSubtracted(t *testing.T) {
	for _, carry := range []bool{false, true} {
		c := int(bit(1, carry))
		for m := range 100 {
			for n := range 100 {
				a, f := Add(digits(m), digits(n), carry)
				r, g := Daa(a, f)
				if sum := m + n + c; r != digits(sum%100) || g&1 != bit(1, sum > 99) {
					t.Fatalf("%d and %d (%v) is %x, %s", m, n, carry, r, flag.Show(g))
				}
				a, f = Sub(digits(m), digits(n), carry)
				r, g = Daa(a, f)
				if rest := m - n - c; r != digits((rest+100)%100) || g&1 != bit(1, rest < 0) {
					t.Fatalf("%d less %d (%v) is %x, %s", m, n, carry, r, flag.Show(g))
				}
			}
		}
	}
}
