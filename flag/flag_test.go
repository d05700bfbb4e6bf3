package flag

import (
	"math"
	"math/bits"
	"strings"
	"testing"

	"squeal/api"
)

// every calls f with each of the 256 bytes.
func every(f func(b uint8)) {
	for b := range 256 {
		f(uint8(b))
	}
}

// 1.1

func TestEven(t *testing.T) {
	every(func(b uint8) {
		if want := bits.OnesCount8(b)%2 == 0; Even(b) != want {
			t.Errorf("Even(%d) is %v", b, !want)
		}
	})
	if !Even(0) || Even(1) || Even(128) || !Even(129) || !Even(255) || Even(254) {
		t.Error("Even of bytes that are written out")
	}
}

func TestOf(t *testing.T) {
	for _, x := range []struct{ b, of, ofP uint8 }{
		{0, 64, 68},
		{1, 0, 0},
		{3, 0, 4},
		{8, 8, 8},
		{16, 0, 0},
		{32, 32, 32},
		{40, 40, 44},
		{64, 0, 0},
		{128, 128, 128},
		{129, 128, 132},
		{215, 128, 132},
		{255, 168, 172},
	} {
		if got := Of(x.b); got != x.of {
			t.Errorf("Of(%d) is %d, not %d", x.b, got, x.of)
		}
		if got := OfP(x.b); got != x.ofP {
			t.Errorf("OfP(%d) is %d, not %d", x.b, got, x.ofP)
		}
	}
}

func TestOfEveryByte(t *testing.T) {
	every(func(b uint8) {
		var want uint8
		if b >= 128 {
			want += 128
		}
		if b == 0 {
			want += 64
		}
		want += b / 32 % 2 * 32
		want += b / 8 % 2 * 8
		if got := Of(b); got != want {
			t.Errorf("Of(%d) is %d, not %d", b, got, want)
		}
		if bits.OnesCount8(b)%2 == 0 {
			want += 4
		}
		if got := OfP(b); got != want {
			t.Errorf("OfP(%d) is %d, not %d", b, got, want)
		}
	})
}

func TestWith(t *testing.T) {
	for _, x := range []struct {
		f, bit uint8
		on     bool
		want   uint8
	}{
		{0, 0, true, 0},
		{0, 0, false, 0},
		{255, 0, false, 255},
		{0, 255, true, 255},
		{255, 255, false, 0},
		{65, 1, true, 65},
		{65, 1, false, 64},
		{65, 2, false, 65},
		{64, 24, true, 88},
		{80, 24, true, 88},
		{80, 24, false, 64},
	} {
		if got := With(x.f, x.bit, x.on); got != x.want {
			t.Errorf("With(%d, %d, %v) is %d, not %d", x.f, x.bit, x.on, got, x.want)
		}
	}
}

func TestHas(t *testing.T) {
	for _, x := range []struct {
		f, bit uint8
		want   bool
	}{
		{0, 0, false},
		{255, 0, false},
		{0, 255, false},
		{1, 255, true},
		{128, 128, true},
		{127, 128, false},
		{16, 24, true},
		{8, 24, true},
		{231, 24, false},
	} {
		if got := Has(x.f, x.bit); got != x.want {
			t.Errorf("Has(%d, %d) is %v", x.f, x.bit, got)
		}
	}
}

func TestWithAndHasAtEveryPair(t *testing.T) {
	every(func(f uint8) {
		every(func(bit uint8) {
			on, off, has := f, f, false
			for k := range 8 {
				if one := uint8(1) << k; bit&one != 0 {
					has = has || f&one != 0
					on |= one
					off &^= one
				}
			}
			if With(f, bit, true) != on || With(f, bit, false) != off || Has(f, bit) != has {
				t.Fatalf("f %d, bit %d", f, bit)
			}
		})
	})
}

// 1.2

func TestCond(t *testing.T) {
	every(func(f uint8) {
		z, c, p, s := f&64 != 0, f&1 != 0, f&4 != 0, f&128 != 0
		for k, want := range []bool{!z, z, !c, c, !p, p, !s, s} {
			if Cond(f, k) != want {
				t.Errorf("Cond(%d, %d) is %v", f, k, !want)
			}
		}
	})
}

func TestCondOfEachBitAlone(t *testing.T) {
	for _, x := range []struct {
		bit uint8
		met string // the conditions from k 0 on
	}{
		{0, "10101010"},
		{api.FlagS, "10101001"},
		{api.FlagZ, "01101010"},
		{api.FlagY, "10101010"},
		{api.FlagH, "10101010"},
		{api.FlagX, "10101010"},
		{api.FlagP, "10100110"},
		{api.FlagN, "10101010"},
		{api.FlagC, "10011010"},
	} {
		for k := range 8 {
			if want := x.met[k] == '1'; Cond(x.bit, k) != want {
				t.Errorf("Cond(%d, %d) is %v", x.bit, k, !want)
			}
		}
	}
}

func TestCondOfNoCondition(t *testing.T) {
	for _, k := range []int{-1, -2, -3, -7, -8, 8, 9, 10, 15, 16, 255, 256, 257, math.MinInt, math.MinInt + 1, math.MaxInt - 1, math.MaxInt} {
		every(func(f uint8) {
			if Cond(f, k) {
				t.Errorf("Cond(%d, %d) is true", f, k)
			}
		})
	}
}

// 1.3

func TestShow(t *testing.T) {
	for f, want := range map[uint8]string{
		0:   "--------",
		1:   "-------C",
		2:   "------N-",
		4:   "-----P--",
		8:   "----X---",
		16:  "---H----",
		32:  "--Y-----",
		64:  "-Z------",
		128: "S-------",
		65:  "-Z-----C",
		170: "S-Y-X-N-",
		255: "SZYHXPNC",
	} {
		if got := Show(f); got != want {
			t.Errorf("Show(%d) is %q, not %q", f, got, want)
		}
		if got, e := Read(want); got != f || e != api.OK {
			t.Errorf("Read(%q) is %d, %d", want, got, e)
		}
	}
}

func TestReadOfNoShow(t *testing.T) {
	for _, s := range []string{
		"",
		"-",
		"S",
		"-------",
		"SZYHXPN",
		"ZYHXPNC",
		"---------",
		"SZYHXPNCC",
		"SZYHXPNC ",
		" SZYHXPNC",
		"SZYHXPNC-",
		"SZYHXPNC\x00",
		"ZSYHXPNC",
		"CNPXHYZS",
		"C-------",
		"-------S",
		"--X-----",
		"----Y---",
		"-S------",
		"szyhxpnc",
		"-z------",
		"        ",
		"-Z----- ",
		"-Z-----\x00",
		"-Z-----1",
		"-Z-----_",
		"\xff-------",
		"-------\xff",
		"\xff\xff\xff\xff\xff\xff\xff\xff",
		"------\u00e9",
		"\u00e9------",
		"\u2212-------",
		"-----\u2212",
		"\u2212-----",
		"\uff33ZYHX-",
		"SZYHX\uff30",
		"\U0001d412----",
		"----\U0001d412",
		"SZYHXPN\u0421",
		"\u0160ZYHXPNC",
		"\ufffd-----",
		"\u2212\u2212\u2212\u2212\u2212\u2212\u2212\u2212",
		strings.Repeat("-", 256),
		strings.Repeat("-", 264),
		strings.Repeat("SZYHXPNC", 1<<16),
	} {
		if got, e := Read(s); got != 0 || e != api.ErrForm {
			t.Errorf("Read(%.40q) is %d, %d", s, got, e)
		}
	}
}

// At each place each byte is tried: the only right ones are the bit's own sign and -.
func TestReadWithOneSignChanged(t *testing.T) {
	for _, f := range []uint8{0, 65, 170, 255} {
		for place := range 8 {
			every(func(b uint8) {
				s := []byte(Show(f))
				s[place] = b
				one := uint8(128) >> place
				want, wantE := uint8(0), api.ErrForm
				switch b {
				case "SZYHXPNC"[place]:
					want, wantE = f|one, api.OK
				case '-':
					want, wantE = f&^one, api.OK
				}
				if got, e := Read(string(s)); got != want || e != wantE {
					t.Errorf("Read(%q) is %d, %d", s, got, e)
				}
			})
		}
	}
}

// 1.4

func TestReadOfShow(t *testing.T) {
	seen := map[string]bool{}
	every(func(f uint8) {
		s := Show(f)
		if got, e := Read(s); got != f || e != api.OK {
			t.Errorf("Read(%q) is %d, %d", s, got, e)
		}
		seen[s] = true
	})
	if len(seen) != 256 {
		t.Errorf("%d texts of 256 bytes", len(seen))
	}
}

func TestCondTurnsWithTheNextOne(t *testing.T) {
	every(func(f uint8) {
		for k := 0; k < 8; k += 2 {
			if Cond(f, k) == Cond(f, k+1) {
				t.Errorf("Cond(%d, %d) and the next one are the same", f, k)
			}
		}
	})
}
