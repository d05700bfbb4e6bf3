package wide

import (
	"testing"

	"squeal/api"
	"squeal/flag"
)

// words are those at which a carry, a sign or a nought begins or ends.
var words = []uint16{
	0, 1, 2, 127, 128, 254, 255, 256, 257,
	0x07ff, 0x0800, 0x0ffe, 0x0fff, 0x1000, 0x1001,
	0x1fff, 0x2000, 0x2800, 0x5555, 0x7000,
	0x7ffe, 0x7fff, 0x8000, 0x8001, 0x8fff,
	0xaaaa, 0xd7ff, 0xf000, 0xfffe, 0xffff,
}

// told is a flags' text as a byte.
func told(t *testing.T, s string) uint8 {
	t.Helper()
	f, e := flag.Read(s)
	if e != api.OK {
		t.Fatalf("no flags: %q", s)
	}
	return f
}

// row is a call that is written out, and its answer.
type row struct {
	a, b uint16
	f    string
	r    uint16
	g    string
}

func checkRows(t *testing.T, name string, do func(a, b uint16, f uint8) (uint16, uint8), rows []row) {
	t.Helper()
	for _, x := range rows {
		if r, g := do(x.a, x.b, told(t, x.f)); r != x.r || g != told(t, x.g) {
			t.Errorf("%s(%#x, %#x, %s) is %#x, %s", name, x.a, x.b, x.f, r, flag.Show(g))
		}
	}
}

// yx is Y and X of an answer: its bits 13 and 11.
func yx(r uint16) uint8 {
	return uint8(r>>13&1)<<5 | uint8(r>>11&1)<<3
}

// nought is Z of an answer.
func nought(r uint16) uint8 {
	if r == 0 {
		return 64
	}
	return 0
}

// added is a, b and c reckoned bit by bit (a bit's carry is the majority of
// three), with what the bits 12, 15 and 16 are handed.
func added(a, b uint16, c uint8) (r uint16, h, v, out uint8) {
	var into [17]uint16
	into[0] = uint16(c)
	for k := range 16 {
		x, y := a>>k&1, b>>k&1
		r |= (x ^ y ^ into[k]) << k
		into[k+1] = x&y | x&into[k] | y&into[k]
	}
	return r, uint8(into[12]), uint8(into[15] ^ into[16]), uint8(into[16])
}

// taken is a less b and less c likewise.
func taken(a, b uint16, c uint8) (r uint16, h, v, out uint8) {
	var into [17]uint16
	into[0] = uint16(c)
	for k := range 16 {
		x, y := a>>k&1, b>>k&1
		r |= (x ^ y ^ into[k]) << k
		into[k+1] = (1-x)&y | (1-x)&into[k] | y&into[k]
	}
	return r, uint8(into[12]), uint8(into[15] ^ into[16]), uint8(into[16])
}

// checkSums holds the three calls against sums that are reckoned bit by bit.
func checkSums(t *testing.T, a, b uint16, f uint8) {
	t.Helper()
	want, h, _, c := added(a, b, 0)
	flags := f&(128|64|4) | yx(want) | h<<4 | c
	if r, g := Add(a, b, f); r != want || g != flags {
		t.Fatalf("Add(%#x, %#x, %s) is %#x, %s", a, b, flag.Show(f), r, flag.Show(g))
	}
	want, h, v, c := added(a, b, f&1)
	flags = uint8(want>>15)<<7 | nought(want) | yx(want) | h<<4 | v<<2 | c
	if r, g := Adc(a, b, f); r != want || g != flags {
		t.Fatalf("Adc(%#x, %#x, %s) is %#x, %s", a, b, flag.Show(f), r, flag.Show(g))
	}
	want, h, v, c = taken(a, b, f&1)
	flags = uint8(want>>15)<<7 | nought(want) | yx(want) | h<<4 | v<<2 | 2 | c
	if r, g := Sbc(a, b, f); r != want || g != flags {
		t.Fatalf("Sbc(%#x, %#x, %s) is %#x, %s", a, b, flag.Show(f), r, flag.Show(g))
	}
}

// 3.1

func TestAddWrittenOut(t *testing.T) {
	checkRows(t, "Add", Add, []row{
		{0, 0, "--------", 0, "--------"},
		{0, 0, "SZYHXPNC", 0, "SZ---P--"},
		{1, 2, "-------C", 3, "--------"},
		{0x0fff, 1, "--------", 0x1000, "---H----"},
		{0x0ffe, 1, "-------C", 0x0fff, "----X---"},
		{0x7fff, 1, "--------", 0x8000, "---H----"},
		{0x7fff, 1, "-----P--", 0x8000, "---H-P--"},
		{0x8000, 0x8000, "--------", 0, "-------C"},
		{0xffff, 1, "S-----N-", 0, "S--H---C"},
		{0xffff, 0xffff, "-Z------", 0xfffe, "-ZYHX--C"},
		{0x2000, 0x0800, "--------", 0x2800, "--Y-X---"},
		{0xffff, 0, "-------C", 0xffff, "--Y-X---"},
	})
}

func TestAdcWrittenOut(t *testing.T) {
	checkRows(t, "Adc", Adc, []row{
		{0, 0, "--------", 0, "-Z------"},
		{0, 0, "SZYHXPN-", 0, "-Z------"},
		{0, 0, "-------C", 1, "--------"},
		{0x7fff, 1, "--------", 0x8000, "S--H-P--"},
		{0x7fff, 0, "-------C", 0x8000, "S--H-P--"},
		{0x0fff, 0, "-------C", 0x1000, "---H----"},
		{0xffff, 0, "-------C", 0, "-Z-H---C"},
		{0xffff, 1, "--------", 0, "-Z-H---C"},
		{0xffff, 0xffff, "-------C", 0xffff, "S-YHX--C"},
		{0x8000, 0x8000, "--------", 0, "-Z---P-C"},
		{0x8000, 0xffff, "--------", 0x7fff, "--Y-XP-C"},
		{0x8000, 0xffff, "-------C", 0x8000, "S--H---C"},
		{0x0100, 0xff00, "--------", 0, "-Z-H---C"},
		{0x00ff, 0, "--------", 0x00ff, "--------"},
	})
}

func TestSbcWrittenOut(t *testing.T) {
	checkRows(t, "Sbc", Sbc, []row{
		{0, 0, "--------", 0, "-Z----N-"},
		{0, 0, "SZYHXPN-", 0, "-Z----N-"},
		{0, 0, "-------C", 0xffff, "S-YHX-NC"},
		{0, 1, "--------", 0xffff, "S-YHX-NC"},
		{0x8000, 1, "--------", 0x7fff, "--YHXPN-"},
		{0x8000, 0, "-------C", 0x7fff, "--YHXPN-"},
		{0x7fff, 0xffff, "--------", 0x8000, "S----PNC"},
		{0x7fff, 0xffff, "-------C", 0x7fff, "--YHX-NC"},
		{0x1000, 1, "--------", 0x0fff, "---HX-N-"},
		{0x1000, 0, "-------C", 0x0fff, "---HX-N-"},
		{0, 0x8000, "--------", 0x8000, "S----PNC"},
		{0, 0xffff, "-------C", 0, "-Z-H--NC"},
		{0xffff, 0xffff, "--------", 0, "-Z----N-"},
		{0x2800, 0, "--------", 0x2800, "--Y-X-N-"},
	})
}

func TestSumsOfEdgesWithAllFlags(t *testing.T) {
	for _, a := range words {
		for _, b := range words {
			for f := range 256 {
				checkSums(t, a, b, uint8(f))
			}
		}
	}
}

func TestSumsOfAllWordsWithEdges(t *testing.T) {
	for a := range api.Space {
		for _, b := range words {
			for _, f := range []uint8{0, 1} {
				checkSums(t, uint16(a), b, f)
			}
		}
	}
}

// 3.2

func TestBytesOfAWord(t *testing.T) {
	for w := range api.Space {
		hi, lo := uint8(w/256), uint8(w%256)
		if Hi(uint16(w)) != hi || Lo(uint16(w)) != lo {
			t.Fatalf("%d has the bytes %d, %d", w, Hi(uint16(w)), Lo(uint16(w)))
		}
		if got := Of(hi, lo); int(got) != w {
			t.Fatalf("Of(%d, %d) is %d", hi, lo, got)
		}
	}
	if Hi(0x1234) != 0x12 || Lo(0x1234) != 0x34 || Of(0x12, 0x34) != 0x1234 {
		t.Error("a word that is written out")
	}
}

func TestPlus(t *testing.T) {
	for _, x := range []struct {
		w    uint16
		d    uint8
		want uint16
	}{
		{0, 0, 0},
		{5, 255, 4},
		{0, 255, 65535},
		{0, 128, 65408},
		{127, 128, 65535},
		{128, 128, 0},
		{65535, 1, 0},
		{65535, 127, 126},
		{65408, 127, 65535},
		{65409, 127, 0},
		{1000, 127, 1127},
		{1000, 128, 872},
	} {
		if got := Plus(x.w, x.d); got != x.want {
			t.Errorf("Plus(%d, %d) is %d, not %d", x.w, x.d, got, x.want)
		}
	}
}

func TestPlusOfAllBytes(t *testing.T) {
	for w := range api.Space {
		for d := range 256 {
			far := d
			if d > 127 {
				far = d - 256
			}
			want := uint16((w + far + api.Space) % api.Space)
			if got := Plus(uint16(w), uint8(d)); got != want {
				t.Fatalf("Plus(%d, %d) is %d, not %d", w, d, got, want)
			}
		}
	}
}

// 3.3

func TestAdcWithoutACarryIsAdd(t *testing.T) {
	for a := range api.Space {
		for _, b := range words {
			sum, _ := Add(uint16(a), b, 255)
			if r, _ := Adc(uint16(a), b, 254); r != sum {
				t.Fatalf("Add(%d, %d) is %d, Adc %d", a, b, sum, r)
			}
		}
	}
}

func TestAddedIsSubtractedAgain(t *testing.T) {
	for a := range api.Space {
		a := uint16(a)
		for _, b := range words {
			sum, _ := Add(a, b, 255)
			if back, _ := Sbc(sum, b, 254); back != a {
				t.Fatalf("%d and %d less %d is %d", a, b, b, back)
			}
			for _, f := range []uint8{0, 1} {
				sum, _ := Adc(a, b, f)
				if back, _ := Sbc(sum, b, f); back != a {
					t.Fatalf("%d and %d less %d (%d) is %d", a, b, b, f, back)
				}
				rest, _ := Sbc(a, b, f)
				if back, _ := Adc(rest, b, f); back != a {
					t.Fatalf("%d less %d and %d (%d) is %d", a, b, b, f, back)
				}
			}
		}
	}
}
