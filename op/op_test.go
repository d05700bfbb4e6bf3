package op

import (
	"bytes"
	"fmt"
	"math"
	"regexp"
	"strconv"
	"strings"
	"testing"
)

// plainCells and moreCells are the texts of the tables below, by their places.
var (
	plainCells = cells(plainTexts)
	moreCells  = cells(moreTexts)
)

// plainTexts are the texts of the 256 plain codes, eight a line; N is a byte, W
// a word, E a distance. The codes 203, 221, 237 and 253 have no text here.
const plainTexts = `
nop|ld bc,W|ld (bc),a|inc bc|inc b|dec b|ld b,N|rlca
ex af,af'|add hl,bc|ld a,(bc)|dec bc|inc c|dec c|ld c,N|rrca
djnz E|ld de,W|ld (de),a|inc de|inc d|dec d|ld d,N|rla
jr E|add hl,de|ld a,(de)|dec de|inc e|dec e|ld e,N|rra
jr nz,E|ld hl,W|ld (W),hl|inc hl|inc h|dec h|ld h,N|daa
jr z,E|add hl,hl|ld hl,(W)|dec hl|inc l|dec l|ld l,N|cpl
jr nc,E|ld sp,W|ld (W),a|inc sp|inc (hl)|dec (hl)|ld (hl),N|scf
jr c,E|add hl,sp|ld a,(W)|dec sp|inc a|dec a|ld a,N|ccf
ld b,b|ld b,c|ld b,d|ld b,e|ld b,h|ld b,l|ld b,(hl)|ld b,a
ld c,b|ld c,c|ld c,d|ld c,e|ld c,h|ld c,l|ld c,(hl)|ld c,a
ld d,b|ld d,c|ld d,d|ld d,e|ld d,h|ld d,l|ld d,(hl)|ld d,a
ld e,b|ld e,c|ld e,d|ld e,e|ld e,h|ld e,l|ld e,(hl)|ld e,a
ld h,b|ld h,c|ld h,d|ld h,e|ld h,h|ld h,l|ld h,(hl)|ld h,a
ld l,b|ld l,c|ld l,d|ld l,e|ld l,h|ld l,l|ld l,(hl)|ld l,a
ld (hl),b|ld (hl),c|ld (hl),d|ld (hl),e|ld (hl),h|ld (hl),l|halt|ld (hl),a
ld a,b|ld a,c|ld a,d|ld a,e|ld a,h|ld a,l|ld a,(hl)|ld a,a
add a,b|add a,c|add a,d|add a,e|add a,h|add a,l|add a,(hl)|add a,a
adc a,b|adc a,c|adc a,d|adc a,e|adc a,h|adc a,l|adc a,(hl)|adc a,a
sub b|sub c|sub d|sub e|sub h|sub l|sub (hl)|sub a
sbc a,b|sbc a,c|sbc a,d|sbc a,e|sbc a,h|sbc a,l|sbc a,(hl)|sbc a,a
and b|and c|and d|and e|and h|and l|and (hl)|and a
xor b|xor c|xor d|xor e|xor h|xor l|xor (hl)|xor a
or b|or c|or d|or e|or h|or l|or (hl)|or a
cp b|cp c|cp d|cp e|cp h|cp l|cp (hl)|cp a
ret nz|pop bc|jp nz,W|jp W|call nz,W|push bc|add a,N|rst $00
ret z|ret|jp z,W||call z,W|call W|adc a,N|rst $08
ret nc|pop de|jp nc,W|out (N),a|call nc,W|push de|sub N|rst $10
ret c|exx|jp c,W|in a,(N)|call c,W||sbc a,N|rst $18
ret po|pop hl|jp po,W|ex (sp),hl|call po,W|push hl|and N|rst $20
ret pe|jp hl|jp pe,W|ex de,hl|call pe,W||xor N|rst $28
ret p|pop af|jp p,W|di|call p,W|push af|or N|rst $30
ret m|ld sp,hl|jp m,W|ei|call m,W||cp N|rst $38`

// moreTexts are the texts behind 237 of the codes from 64 to 127.
const moreTexts = `
in b,(c)|out (c),b|sbc hl,bc|ld (W),bc|neg|retn|im 0|ld i,a
in c,(c)|out (c),c|adc hl,bc|ld bc,(W)|neg|reti|im 0|ld r,a
in d,(c)|out (c),d|sbc hl,de|ld (W),de|neg|retn|im 1|ld a,i
in e,(c)|out (c),e|adc hl,de|ld de,(W)|neg|retn|im 2|ld a,r
in h,(c)|out (c),h|sbc hl,hl|ld (W),hl|neg|retn|im 0|rrd
in l,(c)|out (c),l|adc hl,hl|ld hl,(W)|neg|retn|im 0|rld
in (c)|out (c),0|sbc hl,sp|ld (W),sp|neg|retn|im 1|nop
in a,(c)|out (c),a|adc hl,sp|ld sp,(W)|neg|retn|im 2|nop`

// blockTexts are the texts behind 237 of the codes above 127 that are no nop.
var blockTexts = map[uint8]string{
	160: "ldi", 161: "cpi", 162: "ini", 163: "outi",
	168: "ldd", 169: "cpd", 170: "ind", 171: "outd",
	176: "ldir", 177: "cpir", 178: "inir", 179: "otir",
	184: "lddr", 185: "cpdr", 186: "indr", 187: "otdr",
}

// cells are the texts of a table.
func cells(table string) []string {
	return strings.Split(strings.ReplaceAll(table[1:], "\n", "|"), "|")
}

// isPrefix tells whether a code has no text in plainTexts.
func isPrefix(code uint8) bool {
	return code == 203 || code == 221 || code == 237 || code == 253
}

// moreOf is the text behind 237 of a code.
func moreOf(code uint8) string {
	if code >= 64 && code < 128 {
		return moreCells[code-64]
	}
	if text, ok := blockTexts[code]; ok {
		return text
	}
	return "nop"
}

// bitsOf is the text behind 203 of a code that goes to the thing of a name.
func bitsOf(code uint8, name string) string {
	if code < 64 {
		return strings.Fields("rlc rrc rl rr sla sra sll srl")[code/8] + " " + name
	}
	return fmt.Sprintf("%s %d,%s", strings.Fields("bit res set")[code/64-1], code%64/8, name)
}

// names are the registers' names.
var names = strings.Fields("b c d e h l (hl) a")

var oneByte = regexp.MustCompile(`\b[hl]\b`)

// withIndex is a plain text, made over for the index of a name.
func withIndex(text, name string, d uint8) string {
	if strings.Contains(text, "(hl)") {
		return strings.ReplaceAll(text, "(hl)", fmt.Sprintf("(%s%+d)", name, int8(d)))
	}
	if text == "ex de,hl" {
		return text
	}
	text = oneByte.ReplaceAllStringFunc(text, func(s string) string { return name + s })
	return strings.ReplaceAll(text, "hl", name)
}

// filled is a text with its number put in, at a place of an instruction of so
// many bytes.
func filled(text string, n uint16, pc uint16, length int) string {
	to := uint16(int(pc) + length + int(int8(n)))
	return strings.NewReplacer(
		"N", fmt.Sprintf("$%02x", n%256),
		"W", fmt.Sprintf("$%04x", n),
		"E", fmt.Sprintf("$%04x", to),
	).Replace(text)
}

// argsOf is how many bytes a text of a table asks for.
func argsOf(text string) int {
	return strings.Count(text, "N") + strings.Count(text, "E") + 2*strings.Count(text, "W")
}

// someWords are numbers at which a digit, a byte or a sign changes.
var someWords = []uint16{0, 1, 9, 10, 0x7f, 0x80, 0xab, 0xff, 0x100, 0x5c00, 0x7fff, 0x8000, 0xabcd, 0xff00, 0xffff}

// row is an instruction's bytes, what is read of them, and its table's text.
type row struct {
	b    []byte
	want Ins
	text string
}

// number is the bytes of a number.
func number(n uint16, args int) []byte {
	return []byte{uint8(n), uint8(n / 256)}[:args]
}

// plainRow is the row of a plain code, with or without an index.
func plainRow(code uint8, ix int, d uint8, n uint16) row {
	text := plainCells[code]
	args := argsOf(text)
	if args < 2 {
		n %= 256
	}
	if args < 1 {
		n = 0
	}
	var b []byte
	i := Ins{Ix: ix, Code: code, N: n}
	if ix > 0 {
		b = append(b, [3]uint8{0, 221, 253}[ix])
	}
	b = append(b, code)
	if ix > 0 && strings.Contains(text, "(hl)") {
		b = append(b, d)
		i.D = d
	}
	b = append(b, number(n, args)...)
	i.Len = len(b)
	if ix > 0 {
		text = withIndex(text, [3]string{"", "ix", "iy"}[ix], d)
	}
	return row{b, i, text}
}

// turnRow is the row of a code behind 203.
func turnRow(code uint8) row {
	return row{[]byte{203, code}, Ins{Set: 1, Code: code, Len: 2}, bitsOf(code, names[code%8])}
}

// moreRow is the row of a code behind 237.
func moreRow(code uint8, n uint16) row {
	text := moreOf(code)
	args := argsOf(text)
	if args == 0 {
		n = 0
	}
	b := append([]byte{237, code}, number(n, args)...)
	return row{b, Ins{Set: 2, Code: code, N: n, Len: len(b)}, text}
}

// indexedRow is the row of a code behind an index's prefix and 203.
func indexedRow(code uint8, ix int, d uint8) row {
	name, first := "ix", uint8(221)
	if ix == 2 {
		name, first = "iy", 253
	}
	text := bitsOf(code, fmt.Sprintf("(%s%+d)", name, int8(d)))
	if code/64 != 1 && code%8 != 6 {
		text += "," + names[code%8]
	}
	return row{[]byte{first, 203, d, code}, Ins{Set: 3, Ix: ix, Code: code, D: d, Len: 4}, text}
}

// rows calls f with instructions of each code of all sets but the prefixes that
// stand alone.
func rows(f func(r row)) {
	for k := range 256 {
		code := uint8(k)
		f(turnRow(code))
		for _, n := range someWords {
			f(moreRow(code, n))
			for ix := range 3 {
				if !isPrefix(code) {
					f(plainRow(code, ix, uint8(n>>3), n))
				}
			}
			f(indexedRow(code, 1, uint8(n)))
			f(indexedRow(code, 2, uint8(n)))
		}
	}
}

// checkRead reads b, and holds it against what is wanted.
func checkRead(t *testing.T, b []byte, want Ins) {
	t.Helper()
	kept := bytes.Clone(b)
	if i, ok := Read(b); i != want || !ok {
		t.Fatalf("Read(%v) is %+v, %v, not %+v", b, i, ok, want)
	}
	if !bytes.Equal(b, kept) {
		t.Fatalf("Read(%v) changed them to %v", kept, b)
	}
}

// checkNone reads b, of which there is nothing to be read.
func checkNone(t *testing.T, b []byte) {
	t.Helper()
	if i, ok := Read(b); ok || i != (Ins{}) {
		t.Fatalf("Read(%v) is %+v, %v", b, i, ok)
	}
}

// 7.1

func TestReadWrittenOut(t *testing.T) {
	for _, x := range []struct {
		b    []byte
		want Ins
	}{
		{[]byte{0}, Ins{Len: 1}},
		{[]byte{33, 0, 92}, Ins{Code: 33, N: 0x5c00, Len: 3}},
		{[]byte{24, 254}, Ins{Code: 24, N: 254, Len: 2}},
		{[]byte{62, 5}, Ins{Code: 62, N: 5, Len: 2}},
		{[]byte{118}, Ins{Code: 118, Len: 1}},
		{[]byte{205, 0x34, 0x12}, Ins{Code: 205, N: 0x1234, Len: 3}},
		{[]byte{255}, Ins{Code: 255, Len: 1}},
		{[]byte{203, 0}, Ins{Set: 1, Len: 2}},
		{[]byte{203, 203}, Ins{Set: 1, Code: 203, Len: 2}},
		{[]byte{237, 176}, Ins{Set: 2, Code: 176, Len: 2}},
		{[]byte{237, 0x7b, 0x34, 0x12}, Ins{Set: 2, Code: 0x7b, N: 0x1234, Len: 4}},
		{[]byte{237, 237}, Ins{Set: 2, Code: 237, Len: 2}},
		{[]byte{237, 0}, Ins{Set: 2, Len: 2}},
		{[]byte{221, 126, 251}, Ins{Ix: 1, Code: 126, D: 251, Len: 3}},
		{[]byte{253, 54, 1, 2}, Ins{Ix: 2, Code: 54, D: 1, N: 2, Len: 4}},
		{[]byte{221, 0}, Ins{Ix: 1, Len: 2}},
		{[]byte{221, 233}, Ins{Ix: 1, Code: 233, Len: 2}},
		{[]byte{253, 118}, Ins{Ix: 2, Code: 118, Len: 2}},
		{[]byte{253, 33, 0, 92}, Ins{Ix: 2, Code: 33, N: 0x5c00, Len: 4}},
		{[]byte{221, 203, 5, 70}, Ins{Set: 3, Ix: 1, Code: 70, D: 5, Len: 4}},
		{[]byte{253, 203, 221, 203}, Ins{Set: 3, Ix: 2, Code: 203, D: 221, Len: 4}},
		{[]byte{221, 221}, Ins{Set: 4, Ix: 1, Len: 1}},
		{[]byte{221, 253, 0}, Ins{Set: 4, Ix: 1, Len: 1}},
		{[]byte{253, 237, 176, 0, 0}, Ins{Set: 4, Ix: 2, Len: 1}},
	} {
		checkRead(t, x.b, x.want)
	}
}

// Read is told by the bytes of the instruction: those behind change nothing,
// and without its last one there is nothing.
func TestReadOfAllCodes(t *testing.T) {
	rows(func(r row) {
		checkRead(t, r.b, r.want)
		for _, v := range []byte{0, 54, 203, 221, 237, 253, 255} {
			checkRead(t, append(bytes.Clone(r.b), v), r.want)
			checkRead(t, append(bytes.Clone(r.b), v, v, v, v, v), r.want)
		}
		for n := range r.b {
			checkNone(t, r.b[:n])
			checkNone(t, bytes.Clone(r.b[:n]))
		}
	})
}

func TestReadOfPrefixesAlone(t *testing.T) {
	for ix, first := range map[int]byte{1: 221, 2: 253} {
		want := Ins{Set: 4, Ix: ix, Len: 1}
		for _, next := range []byte{221, 237, 253} {
			checkRead(t, []byte{first, next}, want)
			for v := range 256 {
				checkRead(t, []byte{first, next, byte(v)}, want)
				checkRead(t, []byte{first, next, 0, byte(v), 0}, want)
			}
		}
		for v := range 256 {
			i, ok := Read([]byte{first, byte(v), 0, 0})
			if alone := v == 221 || v == 237 || v == 253; !ok || (i.Set == 4) != alone {
				t.Errorf("Read(%d, %d, ..) is %+v, %v", first, v, i, ok)
			}
		}
	}
}

func TestReadOfTooFewBytes(t *testing.T) {
	for _, b := range [][]byte{
		nil, {}, {203}, {221}, {237}, {253},
		{1}, {1, 2}, {6}, {16}, {24}, {32}, {34}, {34, 0}, {50, 0}, {54}, {58, 0},
		{194, 0}, {195, 0}, {196, 0}, {198}, {205, 0}, {211}, {219}, {254},
		{237, 67}, {237, 67, 0}, {237, 123, 0},
		{221, 203}, {221, 203, 0}, {253, 203, 6}, {221, 203, 203},
		{221, 52}, {253, 53}, {221, 54}, {221, 54, 0}, {221, 126}, {253, 134},
		{221, 33}, {221, 33, 0}, {253, 38},
	} {
		checkNone(t, b)
	}
}

func TestArgsAndMemory(t *testing.T) {
	memories := 0
	for code, text := range plainCells {
		if got := Args(uint8(code)); got != argsOf(text) {
			t.Errorf("Args(%d), of %q, is %d", code, text, got)
		}
		want := strings.Contains(text, "(hl)")
		if got := Memory(uint8(code)); got != want {
			t.Errorf("Memory(%d), of %q, is %v", code, text, got)
		}
		if want {
			memories++
		}
	}
	if memories != 3+14+8 {
		t.Errorf("%d codes go to memory at HL", memories)
	}
}

func TestArgsWrittenOut(t *testing.T) {
	for code, want := range map[uint8]int{
		0: 0, 1: 2, 2: 0, 6: 1, 8: 0, 9: 0, 10: 0, 16: 1, 24: 1, 32: 1, 34: 2, 42: 2, 50: 2, 54: 1, 56: 1, 58: 2,
		118: 0, 128: 0, 192: 0, 193: 0, 194: 2, 195: 2, 196: 2, 197: 0, 198: 1, 199: 0, 201: 0, 203: 0, 205: 2,
		211: 1, 217: 0, 219: 1, 221: 0, 227: 0, 233: 0, 235: 0, 237: 0, 243: 0, 249: 0, 253: 0, 254: 1, 255: 0,
	} {
		if got := Args(code); got != want {
			t.Errorf("Args(%d) is %d, not %d", code, got, want)
		}
	}
}

func TestMemoryWrittenOut(t *testing.T) {
	for code, want := range map[uint8]bool{
		2: false, 10: false, 34: false, 42: false, 44: false, 51: false, 52: true, 53: true, 54: true, 55: false, 62: false,
		69: false, 70: true, 111: false, 112: true, 117: true, 118: false, 119: true, 126: true, 127: false,
		128: false, 134: true, 190: true, 191: false, 198: false, 203: false, 227: false, 233: false, 254: false,
	} {
		if got := Memory(code); got != want {
			t.Errorf("Memory(%d) is %v", code, got)
		}
	}
}

// 7.2

func TestShowWrittenOut(t *testing.T) {
	for _, x := range []struct {
		b    []byte
		pc   uint16
		want string
	}{
		{[]byte{33, 0, 92}, 0, "ld hl,$5c00"},
		{[]byte{221, 126, 251}, 0, "ld a,(ix-5)"},
		{[]byte{24, 254}, 16, "jr $0010"},
		{[]byte{24, 0}, 0, "jr $0002"},
		{[]byte{24, 253}, 0, "jr $ffff"},
		{[]byte{32, 127}, 0xfff0, "jr nz,$0071"},
		{[]byte{16, 128}, 0, "djnz $ff82"},
		{[]byte{221, 24, 254}, 16, "jr $0011"},
		{[]byte{0}, 7, "nop"},
		{[]byte{8}, 0, "ex af,af'"},
		{[]byte{62, 10}, 0, "ld a,$0a"},
		{[]byte{50, 0xcd, 0xab}, 0, "ld ($abcd),a"},
		{[]byte{211, 254}, 0, "out ($fe),a"},
		{[]byte{219, 254}, 0, "in a,($fe)"},
		{[]byte{199}, 0, "rst $00"},
		{[]byte{255}, 0, "rst $38"},
		{[]byte{245}, 0, "push af"},
		{[]byte{241}, 0, "pop af"},
		{[]byte{51}, 0, "inc sp"},
		{[]byte{214, 7}, 0, "sub $07"},
		{[]byte{206, 255}, 0, "adc a,$ff"},
		{[]byte{203, 6}, 0, "rlc (hl)"},
		{[]byte{203, 0x37}, 0, "sll a"},
		{[]byte{203, 0x7c}, 0, "bit 7,h"},
		{[]byte{203, 0x86}, 0, "res 0,(hl)"},
		{[]byte{203, 0xed}, 0, "set 5,l"},
		{[]byte{237, 0x70}, 0, "in (c)"},
		{[]byte{237, 0x71}, 0, "out (c),0"},
		{[]byte{237, 0x4d}, 0, "reti"},
		{[]byte{237, 0x7d}, 0, "retn"},
		{[]byte{237, 0x5e}, 0, "im 2"},
		{[]byte{237, 0x63, 0x34, 0x12}, 0, "ld ($1234),hl"},
		{[]byte{237, 0xb8}, 0, "lddr"},
		{[]byte{237, 0xa4}, 0, "nop"},
		{[]byte{221, 54, 127, 9}, 0, "ld (ix+127),$09"},
		{[]byte{253, 54, 128, 255}, 0, "ld (iy-128),$ff"},
		{[]byte{221, 52, 0}, 0, "inc (ix+0)"},
		{[]byte{221, 102, 1}, 0, "ld h,(ix+1)"},
		{[]byte{253, 117, 255}, 0, "ld (iy-1),l"},
		{[]byte{221, 101}, 0, "ld ixh,ixl"},
		{[]byte{253, 188}, 0, "cp iyh"},
		{[]byte{221, 38, 3}, 0, "ld ixh,$03"},
		{[]byte{253, 45}, 0, "dec iyl"},
		{[]byte{221, 33, 1, 2}, 0, "ld ix,$0201"},
		{[]byte{221, 41}, 0, "add ix,ix"},
		{[]byte{253, 57}, 0, "add iy,sp"},
		{[]byte{221, 34, 1, 2}, 0, "ld ($0201),ix"},
		{[]byte{253, 42, 1, 2}, 0, "ld iy,($0201)"},
		{[]byte{221, 233}, 0, "jp ix"},
		{[]byte{253, 249}, 0, "ld sp,iy"},
		{[]byte{221, 227}, 0, "ex (sp),ix"},
		{[]byte{253, 229}, 0, "push iy"},
		{[]byte{221, 225}, 0, "pop ix"},
		{[]byte{221, 245}, 0, "push af"},
		{[]byte{221, 235}, 0, "ex de,hl"},
		{[]byte{253, 217}, 0, "exx"},
		{[]byte{221, 118}, 0, "halt"},
		{[]byte{221, 10}, 0, "ld a,(bc)"},
		{[]byte{221, 203, 251, 70}, 0, "bit 0,(ix-5)"},
		{[]byte{221, 203, 251, 71}, 0, "bit 0,(ix-5)"},
		{[]byte{253, 203, 5, 6}, 0, "rlc (iy+5)"},
		{[]byte{253, 203, 5, 0}, 0, "rlc (iy+5),b"},
		{[]byte{221, 203, 128, 0xbc}, 0, "res 7,(ix-128),h"},
		{[]byte{221, 203, 0, 0xfd}, 0, "set 7,(ix+0),l"},
		{[]byte{221, 203, 0, 0xfe}, 0, "set 7,(ix+0)"},
		{[]byte{221, 221}, 0, "prefix ix"},
		{[]byte{253, 221}, 0, "prefix iy"},
	} {
		i, ok := Read(x.b)
		if got := Show(i, x.pc); got != x.want || !ok {
			t.Errorf("Show of %v at %d is %q, not %q", x.b, x.pc, got, x.want)
		}
	}
}

func TestShowOfAllCodes(t *testing.T) {
	rows(func(r row) {
		i, _ := Read(r.b)
		for _, pc := range someWords {
			if want, got := filled(r.text, i.N, pc, len(r.b)), Show(i, pc); got != want {
				t.Fatalf("Show of %v at %d is %q, not %q", r.b, pc, got, want)
			}
		}
	})
}

func TestShowOfAllDistances(t *testing.T) {
	for d := range 256 {
		for _, r := range []row{plainRow(126, 1, uint8(d), 0), plainRow(54, 2, uint8(d), 17), indexedRow(0x46, 1, uint8(d)), indexedRow(0xc1, 2, uint8(d))} {
			checkRead(t, r.b, r.want)
			if want, got := filled(r.text, r.want.N, 0, 4), Show(r.want, 0); got != want {
				t.Errorf("Show of %v is %q, not %q", r.b, got, want)
			}
		}
		for _, code := range []uint8{16, 24, 32, 40, 48, 56} {
			for ix := range 3 {
				r := plainRow(code, ix, 0, uint16(d))
				for _, pc := range someWords {
					if want, got := filled(r.text, uint16(d), pc, len(r.b)), Show(r.want, pc); got != want {
						t.Errorf("Show of %v at %d is %q, not %q", r.b, pc, got, want)
					}
				}
			}
		}
	}
}

func TestShowOfAllNumbers(t *testing.T) {
	for n := range 65536 {
		if want, got := fmt.Sprintf("jp $%04x", n), Show(Ins{Code: 195, N: uint16(n), Len: 3}, 0); got != want {
			t.Fatalf("Show is %q, not %q", got, want)
		}
	}
	for n := range 256 {
		if want, got := fmt.Sprintf("and $%02x", n), Show(Ins{Code: 230, N: uint16(n), Len: 2}, 0); got != want {
			t.Fatalf("Show is %q, not %q", got, want)
		}
	}
}

// wild are numbers of no set and no index.
var wild = []int{-1, -2, -5, 5, 6, 7, 8, 255, 256, 257, 258, 259, 260, math.MinInt, math.MinInt + 1, math.MinInt32, math.MaxInt32, math.MaxInt - 1, math.MaxInt}

func TestShowOfNoSet(t *testing.T) {
	for _, set := range wild {
		for code := range 256 {
			for ix := range 3 {
				i := Ins{Set: set, Ix: ix, Code: uint8(code), D: 1, N: 2, Len: 3}
				if got := Show(i, 16); got != "" {
					t.Errorf("Show(%+v) is %q", i, got)
				}
			}
		}
	}
}

func TestShowOfPrefixesAsPlainCodes(t *testing.T) {
	for _, ix := range append([]int{0, 1, 2}, wild...) {
		for _, n := range someWords {
			if got := Show(Ins{Ix: ix, Code: 203, N: n, Len: 1}, n); got != "" {
				t.Errorf("Show of 203 is %q", got)
			}
			for _, code := range []uint8{221, 237, 253} {
				want := fmt.Sprintf("call $%04x", n)
				if got := Show(Ins{Ix: ix, Code: code, N: n, Len: 3}, 16); got != want {
					t.Errorf("Show of %d is %q, not %q", code, got, want)
				}
			}
		}
	}
}

func TestShowOfNoIndex(t *testing.T) {
	for _, ix := range append([]int{0, 3, 4}, wild...) {
		for k := range 256 {
			code := uint8(k)
			if !isPrefix(code) {
				r := plainRow(code, 0, 0, 0x8123)
				r.want.Ix, r.want.D = ix, 99
				if want, got := filled(r.text, r.want.N, 1, len(r.b)), Show(r.want, 1); got != want {
					t.Fatalf("Show(%+v) is %q, not %q", r.want, got, want)
				}
			}
			r := indexedRow(code, 2, 200)
			r.want.Ix = ix
			if got := Show(r.want, 1); got != r.text {
				t.Fatalf("Show(%+v) is %q, not %q", r.want, got, r.text)
			}
			if got := Show(Ins{Set: 4, Ix: ix, Code: code, Len: 1}, 1); got != "prefix iy" {
				t.Fatalf("a prefix with the index %d is %q", ix, got)
			}
		}
	}
}

// Behind 203 and 237 an index, a distance and a number that isn't asked for
// change nothing.
func TestShowOfWhatIsNotAsked(t *testing.T) {
	for k := range 256 {
		code := uint8(k)
		for _, ix := range append([]int{0, 1, 2}, wild...) {
			i := Ins{Set: 1, Ix: ix, Code: code, D: 7, N: 0xffff, Len: 9}
			if want, got := turnRow(code).text, Show(i, 5); got != want {
				t.Fatalf("Show(%+v) is %q, not %q", i, got, want)
			}
			i.Set = 2
			if want, got := filled(moreOf(code), 0xffff, 5, 9), Show(i, 5); got != want {
				t.Fatalf("Show(%+v) is %q, not %q", i, got, want)
			}
		}
	}
}

// A byte is the lower one of a number that is made by hand, and a length of any
// size is taken modulo 65,536.
func TestShowOfNumbersMadeByHand(t *testing.T) {
	if got := Show(Ins{Code: 62, N: 0x1234, Len: 2}, 0); got != "ld a,$34" {
		t.Errorf("a byte of a word is told so: %q", got)
	}
	for _, length := range append([]int{0, 1, 2, 3, 4, 65535, 65536, 65537}, wild...) {
		want := fmt.Sprintf("jr $%04x", uint16(length+16-2))
		if got := Show(Ins{Code: 24, N: 0x12fe, Len: length}, 16); got != want {
			t.Errorf("of the length %d: %q, not %q", length, got, want)
		}
	}
}

// 7.3

func TestReadOfAnyBytes(t *testing.T) {
	few := []byte{0, 54, 67, 203, 221, 255}
	for first := range 256 {
		for second := range 256 {
			for _, third := range few {
				for _, fourth := range few {
					checkHangs(t, []byte{byte(first), byte(second), third, fourth})
				}
			}
		}
	}
}

// checkHangs reads four bytes, and what is read once more, with all bytes behind
// it turned or gone.
func checkHangs(t *testing.T, b []byte) {
	t.Helper()
	i, ok := Read(b)
	if !ok || i.Len < 1 || i.Len > 4 {
		t.Fatalf("Read(%v) is %+v, %v", b, i, ok)
	}
	length := i.Len
	if i.Set == 4 {
		// Whether it stands alone is told by the byte behind.
		length++
	}
	other := bytes.Clone(b)
	for n := length; n < len(other); n++ {
		other[n] ^= 0xff
	}
	for _, c := range [][]byte{other, b[:length], append(bytes.Clone(b[:length]), bytes.Repeat([]byte{221}, 9)...)} {
		if j, ok := Read(c); !ok || j != i {
			t.Fatalf("Read(%v) is %+v, %v, not %+v", c, j, ok, i)
		}
	}
}

// No two plain codes do the same work, so that no two have the same text.
func TestTextsOfPlainCodesAreUnlike(t *testing.T) {
	seen := map[string]int{}
	for k := range 256 {
		if code := uint8(k); !isPrefix(code) {
			i, _ := Read([]byte{code, 1, 2})
			seen[Show(i, 0)]++
		}
	}
	if len(seen) != 252 {
		t.Errorf("%d texts of 252 codes", len(seen))
	}
}

func TestTablesAreWhole(t *testing.T) {
	if n := len(plainCells); n != 256 {
		t.Errorf("%d plain codes", n)
	}
	if n := len(moreCells); n != 64 {
		t.Errorf("%d codes behind 237", n)
	}
	for code, text := range plainCells {
		if (text == "") != isPrefix(uint8(code)) {
			t.Errorf("the code %d is %s", code, strconv.Quote(text))
		}
	}
}
