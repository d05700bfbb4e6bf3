package micro

import (
	"fmt"
	"math"
	"regexp"
	"slices"
	"strings"
	"testing"

	"squeal/op"
)

// wild are numbers that are no set and no index.
var wild = []int{
	-1, -2, -3, -4, 4, 5, 6, 7, 8, 9, 16, 255, 256, 257, 258, 259,
	math.MinInt32, math.MaxInt32, math.MinInt, math.MinInt + 1, math.MinInt + 2,
	math.MaxInt/2 + 1, math.MaxInt/2 + 2, math.MaxInt - 1, math.MaxInt,
}

// isPrefix tells whether a plain code has no steps, since another one follows.
func isPrefix(code uint8) bool {
	return code == 203 || code == 221 || code == 237 || code == 253
}

// program is the steps of a code alone.
func program(set, ix int, code uint8) []Step {
	return Program(nil, set, ix, code)
}

// programs calls f with each code of all sets, without an index and with both,
// but for the prefixes.
func programs(f func(set, ix int, code uint8)) {
	for k := range 256 {
		code := uint8(k)
		for ix := range 3 {
			if !isPrefix(code) {
				f(0, ix, code)
			}
		}
		f(1, 0, code)
		f(2, 0, code)
		f(3, 1, code)
		f(3, 2, code)
	}
}

// text is a code's text, as layer 7 has it. The byte behind a plain code is no
// number of a word.
func text(set, ix int, code uint8) string {
	return op.Show(op.Ins{Set: set, Ix: ix, Code: code, D: 5, N: 0x1234}, 0)
}

var placeNames = map[Place]string{
	Pc: "pc", Mem: "mem", Bc: "bc", De: "de", Sp: "sp", Down: "down", Top: "top", Wz: "wz", Ir: "ir", Last: "last",
}

// cycles are the cycles of steps as text: a place that is read stands alone; >
// is one that is written; in and out are ports; * is a wait; ? is an Unless.
func cycles(l []Step) string {
	var all []string
	for _, s := range l {
		at := placeNames[s.At]
		switch s.Kind {
		case Wait:
			all = append(all, fmt.Sprintf("%s*%d", at, s.N))
		case Read:
			all = append(all, at)
		case Write:
			all = append(all, ">"+at)
		case In:
			all = append(all, "in:"+at)
		case Out:
			all = append(all, "out:"+at)
		case Unless:
			all = append(all, "?")
		}
	}
	return strings.Join(all, " ")
}

// row is what all codes of the same kind of text have in common: the T-states
// of their steps, if their condition is met and if it isn't, and the cycles.
type row struct {
	texts      string
	met, unmet int
	cycles     string
}

// In these texts REG is a register, PAIR a pair, OP an operation, TURN a turn, IF
// a condition, M memory at HL, X memory at an index, N a byte, W a word.
var table = []row{
	{`nop|ex af,af'|ex de,hl|exx|jp PAIR|di|ei|halt|neg|im [012]`, 0, 0, ""},
	{`ld REG,REG|OP REG|inc REG|dec REG`, 0, 0, ""},
	{`rlca|rrca|rla|rra|daa|cpl|scf|ccf`, 0, 0, ""},
	{`TURN REG|(bit|res|set) [0-7],REG`, 0, 0, ""},
	{`ld PAIR,W|jp W`, 6, 6, "pc pc"},
	{`jp IF,W`, 6, 6, "pc pc ?"},
	{`pop PAIR|ret|retn|reti`, 6, 6, "sp sp"},
	{`ld \(W\),a`, 9, 9, "pc pc >wz"},
	{`ld a,\(W\)`, 9, 9, "pc pc wz"},
	{`ld \(bc\),a`, 3, 3, ">bc"},
	{`ld \(de\),a`, 3, 3, ">de"},
	{`ld a,\(bc\)`, 3, 3, "bc"},
	{`ld a,\(de\)`, 3, 3, "de"},
	{`ld REG,N|OP N`, 3, 3, "pc"},
	{`OP M|ld REG,M`, 3, 3, "mem"},
	{`ld M,REG`, 3, 3, ">mem"},
	{`inc PAIR|dec PAIR|ld sp,PAIR`, 2, 2, "ir*2"},
	{`(add|adc|sbc) PAIR,PAIR`, 7, 7, "ir*7"},
	{`rst N|push PAIR`, 7, 7, "ir*1 >down >down"},
	{`ld \(W\),PAIR`, 12, 12, "pc pc >wz >wz"},
	{`ld PAIR,\(W\)`, 12, 12, "pc pc wz wz"},
	{`inc M|dec M|TURN M|(res|set) [0-7],M`, 7, 7, "mem last*1 >mem"},
	{`ld M,N`, 6, 6, "pc >mem"},
	{`bit [0-7],M`, 4, 4, "mem last*1"},
	{`djnz W`, 9, 4, "ir*1 pc ? last*5"},
	{`jr W`, 8, 8, "pc last*5"},
	{`jr IF,W`, 8, 3, "pc ? last*5"},
	{`ret IF`, 7, 1, "ir*1 ? sp sp"},
	{`call W`, 13, 13, "pc pc last*1 >down >down"},
	{`call IF,W`, 13, 6, "pc pc ? last*1 >down >down"},
	{`out \(N\),a`, 7, 7, "pc out:wz"},
	{`in a,\(N\)`, 7, 7, "pc in:wz"},
	{`ex \(sp\),PAIR`, 15, 15, "sp top last*1 >top >down last*2"},
	{`in REG,\(c\)|in \(c\)`, 4, 4, "in:bc"},
	{`out \(c\),(REG|0)`, 4, 4, "out:bc"},
	{`ld [ir],a|ld a,[ir]`, 1, 1, "ir*1"},
	{`rrd|rld`, 10, 10, "mem last*4 >mem"},
	{`ldi|ldd`, 8, 8, "mem >de last*2"},
	{`cpi|cpd`, 8, 8, "mem last*5"},
	{`ini|ind`, 8, 8, "ir*1 in:bc >mem"},
	{`outi|outd`, 8, 8, "ir*1 mem out:bc"},
	{`ldir|lddr`, 13, 8, "mem >de last*2 ? last*5"},
	{`cpir|cpdr`, 13, 8, "mem last*5 ? last*5"},
	{`inir|indr`, 13, 8, "ir*1 in:bc >mem ? last*5"},
	{`otir|otdr`, 13, 8, "ir*1 mem out:bc ? last*5"},
	{`OP X|ld REG,X`, 11, 11, "pc last*5 mem"},
	{`ld X,REG`, 11, 11, "pc last*5 >mem"},
	{`inc X|dec X`, 15, 15, "pc last*5 mem last*1 >mem"},
	{`ld X,N`, 11, 11, "pc pc last*2 >mem"},
	{`(TURN X|(res|set) [0-7],X)(,REG)?`, 7, 7, "mem last*1 >mem"},
	{`bit [0-7],X`, 4, 4, "mem last*1"},
}

// pattern is a row's texts as an expression.
func pattern(texts string) *regexp.Regexp {
	return regexp.MustCompile("^(" + strings.NewReplacer(
		"REG", `([bcdehla]|i[xy][hl])`,
		"PAIR", `(bc|de|hl|sp|af|ix|iy)`,
		"OP ", `(add a,|adc a,|sub |sbc a,|and |xor |or |cp )`,
		"TURN", `(rlc|rrc|rl|rr|sla|sra|sll|srl)`,
		"IF", `(nz|z|nc|c|po|pe|p|m)`,
		"M", `\(hl\)`,
		"X", `\(i[xy]\+5\)`,
		"N", `\$[0-9a-f]{2}`,
		"W", `\$[0-9a-f]{4}`,
	).Replace(texts) + ")$")
}

// 8.1, 8.2

func TestTimesByTexts(t *testing.T) {
	var patterns []*regexp.Regexp
	for _, r := range table {
		patterns = append(patterns, pattern(r.texts))
	}
	used := make([]int, len(table))
	programs(func(set, ix int, code uint8) {
		name := text(set, ix, code)
		found := 0
		for k, r := range table {
			if !patterns[k].MatchString(name) {
				continue
			}
			found++
			used[k]++
			l := program(set, ix, code)
			if met, unmet := Time(l, true), Time(l, false); met != r.met || unmet != r.unmet {
				t.Errorf("%s (set %d, code %d): %d (%d), not %d (%d)", name, set, code, met, unmet, r.met, r.unmet)
			}
			if got := cycles(l); got != r.cycles {
				t.Errorf("%s (set %d, code %d): %q, not %q", name, set, code, got, r.cycles)
			}
		}
		if found != 1 {
			t.Errorf("%s (set %d, code %d) stands in %d rows", name, set, code, found)
		}
	})
	for k, n := range used {
		if n == 0 {
			t.Errorf("no text is %s", table[k].texts)
		}
	}
}

// plainTimes are the T-states of all plain codes with their fetch, sixteen a
// line; ahead of a stroke those of a condition that isn't met. A prefix has its
// fetch alone.
const plainTimes = `
4 10 7 6 4 4 7 4 4 11 7 6 4 4 7 4
8/13 10 7 6 4 4 7 4 12 11 7 6 4 4 7 4
7/12 10 16 6 4 4 7 4 7/12 11 16 6 4 4 7 4
7/12 10 13 6 11 11 10 4 7/12 11 13 6 4 4 7 4
4 4 4 4 4 4 7 4 4 4 4 4 4 4 7 4
4 4 4 4 4 4 7 4 4 4 4 4 4 4 7 4
4 4 4 4 4 4 7 4 4 4 4 4 4 4 7 4
7 7 7 7 7 7 4 7 4 4 4 4 4 4 7 4
4 4 4 4 4 4 7 4 4 4 4 4 4 4 7 4
4 4 4 4 4 4 7 4 4 4 4 4 4 4 7 4
4 4 4 4 4 4 7 4 4 4 4 4 4 4 7 4
4 4 4 4 4 4 7 4 4 4 4 4 4 4 7 4
5/11 10 10 10 10/17 11 7 11 5/11 10 10 4 10/17 17 7 11
5/11 10 10 11 10/17 11 7 11 5/11 4 10 11 10/17 4 7 11
5/11 10 10 19 10/17 11 7 11 5/11 4 10 4 10/17 4 7 11
5/11 10 10 4 10/17 11 7 11 5/11 6 10 4 10/17 4 7 11`

// moreTimes are those behind 237 of the codes from 64 to 127, with both fetches.
const moreTimes = `
12 12 15 20 8 14 8 9 12 12 15 20 8 14 8 9
12 12 15 20 8 14 8 9 12 12 15 20 8 14 8 9
12 12 15 20 8 14 8 18 12 12 15 20 8 14 8 18
12 12 15 20 8 14 8 8 12 12 15 20 8 14 8 8`

// checkTimes holds the steps of a code, behind fetches of so many T-states,
// against a cell of those tables.
func checkTimes(t *testing.T, set, ix int, code uint8, fetch int, cell string) {
	t.Helper()
	var met, unmet int
	if n, _ := fmt.Sscanf(cell, "%d/%d", &unmet, &met); n < 2 {
		fmt.Sscanf(cell, "%d", &met)
		unmet = met
	}
	l := program(set, ix, code)
	if a, b := fetch+Time(l, true), fetch+Time(l, false); a != met || b != unmet {
		t.Errorf("set %d, index %d, code %d: %d (%d), not %d (%d)", set, ix, code, a, b, met, unmet)
	}
}

func TestTimesWrittenOut(t *testing.T) {
	for code, cell := range strings.Fields(plainTimes) {
		checkTimes(t, 0, 0, uint8(code), 4, cell)
	}
	for k, cell := range strings.Fields(moreTimes) {
		checkTimes(t, 2, 0, uint8(64+k), 8, cell)
	}
	for k := range 256 {
		code := uint8(k)
		switch {
		case k >= 64 && k < 128:
		case k >= 160 && k < 192 && k%8 < 4 && k < 176:
			checkTimes(t, 2, 0, code, 8, "16")
		case k >= 176 && k < 192 && k%8 < 4:
			checkTimes(t, 2, 0, code, 8, "16/21")
		default:
			checkTimes(t, 2, 0, code, 8, "8")
		}
	}
}

func TestTimesOfBits(t *testing.T) {
	for k := range 256 {
		code := uint8(k)
		isTest := code >= 64 && code < 128
		switch {
		case code%8 != 6:
			checkTimes(t, 1, 0, code, 8, "8")
		case isTest:
			checkTimes(t, 1, 0, code, 8, "12")
		default:
			checkTimes(t, 1, 0, code, 8, "15")
		}
		for ix := 1; ix <= 2; ix++ {
			// A prefix, a code, a distance, a code, and two of waiting.
			if isTest {
				checkTimes(t, 3, ix, code, 4+4+3+3+2, "20")
			} else {
				checkTimes(t, 3, ix, code, 4+4+3+3+2, "23")
			}
		}
	}
}

func TestTimesWithAnIndex(t *testing.T) {
	cells := strings.Fields(plainTimes)
	for k := range 256 {
		code, cell := uint8(k), cells[k]
		switch {
		case code == 54:
			cell = "15"
		case code == 52 || code == 53:
			cell = "19"
		case code >= 64 && code < 192 && cell == "7":
			cell = "15"
		}
		checkTimes(t, 0, 1, code, 4, cell)
		checkTimes(t, 0, 2, code, 4, cell)
	}
}

func TestTimeOfSteps(t *testing.T) {
	for _, x := range []struct {
		l          []Step
		met, unmet int
	}{
		{nil, 0, 0},
		{[]Step{}, 0, 0},
		{[]Step{{}}, 0, 0},
		{[]Step{{Kind: Wait, At: Ir, N: 1}}, 1, 1},
		{[]Step{{Kind: Wait, At: Last, N: 1000}}, 1000, 1000},
		{[]Step{{Kind: Read, At: Mem, What: 77, N: 9}}, 3, 3},
		{[]Step{{Kind: Write, At: Down, What: 77, N: 9}}, 3, 3},
		{[]Step{{Kind: In, At: Bc, What: 77, N: 9}}, 4, 4},
		{[]Step{{Kind: Out, At: Wz, What: 77, N: 9}}, 4, 4},
		{[]Step{{Kind: Work, What: 77, N: 9}}, 0, 0},
		{[]Step{{Kind: Unless, What: 77, N: 9}}, 0, 0},
		{[]Step{{Kind: -1, N: 9}, {Kind: Unless + 1, N: 9}}, 0, 0},
		{[]Step{{Kind: Unless}, {Kind: Read}, {Kind: Wait, N: 2}}, 5, 0},
		{[]Step{{Kind: Read}, {Kind: Unless}, {Kind: Write}}, 6, 3},
		{[]Step{{Kind: In}, {Kind: Work}, {Kind: Unless}, {Kind: Write}, {Kind: Unless}, {Kind: Out}}, 11, 4},
	} {
		if met, unmet := Time(x.l, true), Time(x.l, false); met != x.met || unmet != x.unmet {
			t.Errorf("Time(%v) is %d (%d), not %d (%d)", x.l, met, unmet, x.met, x.unmet)
		}
	}
}

func TestFetchesOfSteps(t *testing.T) {
	if Fetches(nil) != 0 || Fetches([]Step{}) != 0 {
		t.Error("no steps read at Pc")
	}
	for kind := Wait - 1; kind <= Unless+1; kind++ {
		for at := Pc - 1; at <= Last+1; at++ {
			want := 0
			if kind == Read && at == Pc {
				want = 1
			}
			s := Step{Kind: kind, At: at, N: 3}
			if got := Fetches([]Step{s}); got != want {
				t.Errorf("Fetches of %v is %d", s, got)
			}
			if got := Fetches([]Step{{Kind: Read}, s, {Kind: Unless}, s, {Kind: Read}}); got != 2*want+2 {
				t.Errorf("Fetches with %v is %d", s, got)
			}
		}
	}
}

func TestBytes(t *testing.T) {
	for _, x := range []struct {
		ix   int
		code uint8
		want int
	}{
		{0, 0, 0}, {1, 0, 0}, {0, 198, 1}, {2, 198, 1}, {0, 33, 2}, {1, 33, 2},
		{0, 54, 1}, {1, 54, 2}, {2, 54, 2}, {0, 52, 0}, {1, 53, 1}, {2, 126, 1},
		{1, 112, 1}, {1, 118, 0}, {2, 134, 1}, {1, 135, 0}, {1, 233, 0}, {1, 227, 0},
		{0, 203, 0}, {1, 203, 0}, {2, 221, 0}, {1, 237, 0}, {1, 253, 0}, {1, 205, 2},
		{-1, 54, 1}, {math.MinInt, 126, 0}, {3, 54, 2}, {math.MaxInt, 126, 1},
	} {
		if got := Bytes(x.ix, x.code); got != x.want {
			t.Errorf("Bytes(%d, %d) is %d, not %d", x.ix, x.code, got, x.want)
		}
	}
	for k := range 256 {
		code := uint8(k)
		for _, ix := range append([]int{0, 1, 2, 3}, wild...) {
			want := op.Args(code)
			if ix > 0 && op.Memory(code) {
				want++
			}
			if got := Bytes(ix, code); got != want {
				t.Errorf("Bytes(%d, %d) is %d, not %d", ix, code, got, want)
			}
		}
	}
}

// What an instruction is made of, with its works, written out.
func TestStepsWrittenOut(t *testing.T) {
	for _, x := range []struct {
		set, ix int
		code    uint8
		want    []Step
	}{
		{0, 0, 6, []Step{{Read, Pc, ByteReg, 0}}},
		{0, 0, 49, []Step{{Read, Pc, ByteSpLow, 0}, {Read, Pc, ByteSpHigh, 0}}},
		{0, 0, 17, []Step{{Read, Pc, ByteReg + 3, 0}, {Read, Pc, ByteReg + 2, 0}}},
		{0, 1, 102, []Step{{Read, Pc, ByteD, 0}, {Wait, Last, 0, 5}, {Work, 0, DoReckon, 0}, {Read, Mem, ByteOwn + 4, 0}}},
		{0, 2, 117, []Step{{Read, Pc, ByteD, 0}, {Wait, Last, 0, 5}, {Work, 0, DoReckon, 0}, {Write, Mem, ByteOwn + 5, 0}}},
		{0, 0, 54, []Step{{Read, Pc, ByteReg + 6, 0}, {Write, Mem, ByteReg + 6, 0}}},
		{0, 1, 54, []Step{{Read, Pc, ByteD, 0}, {Work, 0, DoReckon, 0}, {Read, Pc, ByteReg + 6, 0}, {Wait, Last, 0, 2}, {Write, Mem, ByteReg + 6, 0}}},
		{0, 0, 52, []Step{{Read, Mem, ByteReg + 6, 0}, {Wait, Last, 0, 1}, {Work, 0, DoInc, 6}, {Write, Mem, ByteReg + 6, 0}}},
		{0, 0, 53, []Step{{Read, Mem, ByteReg + 6, 0}, {Wait, Last, 0, 1}, {Work, 0, DoDec, 6}, {Write, Mem, ByteReg + 6, 0}}},
		{0, 0, 44, []Step{{Work, 0, DoInc, 5}}},
		{0, 0, 61, []Step{{Work, 0, DoDec, 7}}},
		{0, 0, 19, []Step{{Wait, Ir, 0, 2}, {Work, 0, DoIncPair, 1}}},
		{0, 0, 59, []Step{{Wait, Ir, 0, 2}, {Work, 0, DoDecPair, 3}}},
		{0, 0, 7, []Step{{Work, 0, DoAdjust, 0}}},
		{0, 0, 39, []Step{{Work, 0, DoAdjust + 4, 0}}},
		{0, 0, 8, []Step{{Work, 0, DoExAf, 0}}},
		{0, 0, 217, []Step{{Work, 0, DoExx, 0}}},
		{0, 0, 235, []Step{{Work, 0, DoExDe, 0}}},
		{0, 0, 243, []Step{{Work, 0, DoDi, 0}}},
		{0, 0, 251, []Step{{Work, 0, DoEi, 0}}},
		{0, 0, 118, []Step{{Work, 0, DoHalt, 0}}},
		{0, 0, 233, []Step{{Work, 0, DoJumpHl, 0}}},
		{0, 0, 249, []Step{{Wait, Ir, 0, 2}, {Work, 0, DoLoadSp, 0}}},
		{0, 0, 120, []Step{{Work, 0, DoLoad + 7, 0}}},
		{0, 0, 145, []Step{{Work, 0, DoOperate + 2, 1}}},
		{0, 0, 190, []Step{{Read, Mem, ByteReg + 6, 0}, {Work, 0, DoOperate + 7, 6}}},
		{0, 0, 198, []Step{{Read, Pc, ByteReg + 6, 0}, {Work, 0, DoOperate, 6}}},
		{0, 0, 2, []Step{{Work, 0, DoPoint, 0}, {Write, Bc, ByteReg + 7, 0}, {Work, 0, DoNext, 1}, {Work, 0, DoAbove, 0}}},
		{0, 0, 26, []Step{{Work, 0, DoPoint, 1}, {Read, De, ByteReg + 7, 0}, {Work, 0, DoNext, 1}}},
		{0, 0, 34, []Step{{Read, Pc, ByteZ, 0}, {Read, Pc, ByteW, 0}, {Write, Wz, ByteReg + 5, 0}, {Work, 0, DoNext, 1}, {Write, Wz, ByteReg + 4, 0}}},
		{0, 0, 57, []Step{{Wait, Ir, 0, 7}, {Work, 0, DoPoint, 2}, {Work, 0, DoNext, 1}, {Work, 0, DoAdd, 3}}},
		{0, 0, 16, []Step{{Wait, Ir, 0, 1}, {Work, 0, DoDecB, 0}, {Read, Pc, ByteD, 0}, {Unless, 0, IfB, 0}, {Wait, Last, 0, 5}, {Work, 0, DoJumpNear, 0}}},
		{0, 0, 24, []Step{{Read, Pc, ByteD, 0}, {Wait, Last, 0, 5}, {Work, 0, DoJumpNear, 0}}},
		{0, 0, 48, []Step{{Read, Pc, ByteD, 0}, {Unless, 0, IfFlag + 2, 0}, {Wait, Last, 0, 5}, {Work, 0, DoJumpNear, 0}}},
		{0, 0, 195, []Step{{Read, Pc, ByteZ, 0}, {Read, Pc, ByteW, 0}, {Work, 0, DoJump, 0}}},
		{0, 0, 250, []Step{{Read, Pc, ByteZ, 0}, {Read, Pc, ByteW, 0}, {Unless, 0, IfFlag + 7, 0}, {Work, 0, DoJump, 0}}},
		{0, 0, 205, []Step{{Read, Pc, ByteZ, 0}, {Read, Pc, ByteW, 0}, {Wait, Last, 0, 1}, {Write, Down, BytePcHigh, 0}, {Write, Down, BytePcLow, 0}, {Work, 0, DoJump, 0}}},
		{0, 0, 201, []Step{{Read, Sp, ByteZ, 0}, {Read, Sp, ByteW, 0}, {Work, 0, DoJump, 0}}},
		{0, 0, 216, []Step{{Wait, Ir, 0, 1}, {Unless, 0, IfFlag + 3, 0}, {Read, Sp, ByteZ, 0}, {Read, Sp, ByteW, 0}, {Work, 0, DoJump, 0}}},
		{0, 0, 207, []Step{{Wait, Ir, 0, 1}, {Write, Down, BytePcHigh, 0}, {Write, Down, BytePcLow, 0}, {Work, 0, DoRestart, 8}}},
		{0, 0, 209, []Step{{Read, Sp, ByteReg + 3, 0}, {Read, Sp, ByteReg + 2, 0}}},
		{0, 0, 241, []Step{{Read, Sp, ByteF, 0}, {Read, Sp, ByteReg + 7, 0}}},
		{0, 1, 229, []Step{{Wait, Ir, 0, 1}, {Write, Down, ByteReg + 4, 0}, {Write, Down, ByteReg + 5, 0}}},
		{0, 0, 245, []Step{{Wait, Ir, 0, 1}, {Write, Down, ByteReg + 7, 0}, {Write, Down, ByteF, 0}}},
		{0, 0, 211, []Step{{Read, Pc, ByteZ, 0}, {Work, 0, DoAbove, 0}, {Out, Wz, ByteReg + 7, 0}, {Work, 0, DoNext, 1}, {Work, 0, DoAbove, 0}}},
		{0, 0, 219, []Step{{Read, Pc, ByteZ, 0}, {Work, 0, DoAbove, 0}, {In, Wz, ByteReg + 7, 0}, {Work, 0, DoNext, 1}}},
		{0, 0, 227, []Step{{Read, Sp, ByteZ, 0}, {Read, Top, ByteW, 0}, {Wait, Last, 0, 1}, {Write, Top, ByteReg + 4, 0}, {Write, Down, ByteReg + 5, 0}, {Wait, Last, 0, 2}, {Work, 0, DoTakeTop, 0}}},
		{1, 0, 17, []Step{{Work, 0, DoTurn + 2, 1}}},
		{1, 0, 126, []Step{{Read, Mem, ByteReg + 6, 0}, {Wait, Last, 0, 1}, {Work, 0, DoBit + 7, 6}}},
		{1, 0, 158, []Step{{Read, Mem, ByteReg + 6, 0}, {Wait, Last, 0, 1}, {Work, 0, DoRes + 3, 6}, {Write, Mem, ByteReg + 6, 0}}},
		{3, 1, 196, []Step{{Read, Mem, ByteReg + 6, 0}, {Wait, Last, 0, 1}, {Work, 0, DoSet, 6}, {Work, 0, DoKeep, 4}, {Write, Mem, ByteReg + 6, 0}}},
		{3, 2, 198, []Step{{Read, Mem, ByteReg + 6, 0}, {Wait, Last, 0, 1}, {Work, 0, DoSet, 6}, {Write, Mem, ByteReg + 6, 0}}},
		{2, 0, 88, []Step{{Work, 0, DoPoint, 0}, {Work, 0, DoNext, 1}, {In, Bc, ByteReg + 6, 0}, {Work, 0, DoInput, 3}}},
		{2, 0, 97, []Step{{Work, 0, DoPoint, 0}, {Work, 0, DoNext, 1}, {Out, Bc, ByteReg + 4, 0}}},
		{2, 0, 113, []Step{{Work, 0, DoPoint, 0}, {Work, 0, DoNext, 1}, {Out, Bc, ByteNought, 0}}},
		{2, 0, 66, []Step{{Wait, Ir, 0, 7}, {Work, 0, DoPoint, 2}, {Work, 0, DoNext, 1}, {Work, 0, DoSbc, 0}}},
		{2, 0, 90, []Step{{Wait, Ir, 0, 7}, {Work, 0, DoPoint, 2}, {Work, 0, DoNext, 1}, {Work, 0, DoAdc, 1}}},
		{2, 0, 68, []Step{{Work, 0, DoNeg, 0}}},
		{2, 0, 123, []Step{{Read, Pc, ByteZ, 0}, {Read, Pc, ByteW, 0}, {Read, Wz, ByteSpLow, 0}, {Work, 0, DoNext, 1}, {Read, Wz, ByteSpHigh, 0}}},
		{2, 0, 69, []Step{{Read, Sp, ByteZ, 0}, {Read, Sp, ByteW, 0}, {Work, 0, DoJump, 0}, {Work, 0, DoRestore, 0}}},
		{2, 0, 70, []Step{{Work, 0, DoMode, 0}}},
		{2, 0, 78, []Step{{Work, 0, DoMode, 0}}},
		{2, 0, 86, []Step{{Work, 0, DoMode, 1}}},
		{2, 0, 94, []Step{{Work, 0, DoMode, 2}}},
		{2, 0, 110, []Step{{Work, 0, DoMode, 0}}},
		{2, 0, 95, []Step{{Wait, Ir, 0, 1}, {Work, 0, DoSpecial + 3, 0}}},
		{2, 0, 103, []Step{{Work, 0, DoPoint, 2}, {Work, 0, DoNext, 1}, {Read, Mem, ByteReg + 6, 0}, {Wait, Last, 0, 4}, {Work, 0, DoRrd, 0}, {Write, Mem, ByteReg + 6, 0}}},
		{2, 0, 111, []Step{{Work, 0, DoPoint, 2}, {Work, 0, DoNext, 1}, {Read, Mem, ByteReg + 6, 0}, {Wait, Last, 0, 4}, {Work, 0, DoRld, 0}, {Write, Mem, ByteReg + 6, 0}}},
		{2, 0, 184, []Step{{Read, Mem, ByteReg + 6, 0}, {Write, De, ByteReg + 6, 0}, {Wait, Last, 0, 2}, {Work, 0, DoCopied, -1}, {Unless, 0, IfBc, 0}, {Wait, Last, 0, 5}, {Work, 0, DoAgain, 0}}},
		{2, 0, 177, []Step{{Read, Mem, ByteReg + 6, 0}, {Wait, Last, 0, 5}, {Work, 0, DoSought, 1}, {Work, 0, DoNext, 1}, {Unless, 0, IfMore, 0}, {Wait, Last, 0, 5}, {Work, 0, DoAgain, 0}}},
		{2, 0, 170, []Step{{Wait, Ir, 0, 1}, {Work, 0, DoPoint, 0}, {Work, 0, DoNext, -1}, {In, Bc, ByteReg + 6, 0}, {Write, Mem, ByteReg + 6, 0}, {Work, 0, DoDecB, 0}, {Work, 0, DoCame, -1}}},
		{2, 0, 179, []Step{{Wait, Ir, 0, 1}, {Read, Mem, ByteReg + 6, 0}, {Work, 0, DoDecB, 0}, {Work, 0, DoPoint, 0}, {Work, 0, DoNext, 1}, {Out, Bc, ByteReg + 6, 0}, {Work, 0, DoWent, 1}, {Unless, 0, IfB, 0}, {Wait, Last, 0, 5}, {Work, 0, DoPortAgain, 0}}},
	} {
		if got := program(x.set, x.ix, x.code); !slices.Equal(got, x.want) {
			t.Errorf("set %d, index %d, code %d: %v, not %v", x.set, x.ix, x.code, got, x.want)
		}
	}
}

// Codes that do unlike things have unlike steps. (What the index is, and what
// 237 has twice, isn't told by steps.)
func TestStepsTellCodesApart(t *testing.T) {
	seen := map[string]string{}
	programs(func(set, ix int, code uint8) {
		name := text(set, ix, code)
		if name == "reti" {
			name = "retn"
		}
		key := fmt.Sprint(set, ix, program(set, ix, code))
		if other, ok := seen[key]; ok && other != name {
			t.Errorf("%s and %s (set %d) have the same steps", name, other, set)
		}
		seen[key] = name
	})
}

func TestWhatsAreUnlike(t *testing.T) {
	bytes := []What{ByteReg, ByteOwn, ByteF, ByteZ, ByteW, ByteD, ByteSpLow, ByteSpHigh, BytePcLow, BytePcHigh, ByteNought}
	works := []What{
		DoOperate, DoTurn, DoBit, DoRes, DoSet, DoLoad, DoKeep, DoInc, DoDec, DoAdjust, DoNeg, DoInput, DoSpecial,
		DoRrd, DoRld, DoDecB, DoIncPair, DoDecPair, DoAdd, DoAdc, DoSbc, DoPoint, DoNext, DoAbove, DoReckon, DoLoadSp,
		DoTakeTop, DoJump, DoJumpHl, DoJumpNear, DoRestart, DoExAf, DoExx, DoExDe, DoHalt, DoDi, DoEi, DoMode, DoRestore,
		DoCopied, DoSought, DoCame, DoWent, DoAgain, DoPortAgain,
	}
	conditions := []What{IfFlag, IfB, IfBc, IfMore}
	for _, list := range [][]What{bytes, works, conditions} {
		for k, w := range list {
			if w&Which != 0 || slices.Contains(list[:k], w) {
				t.Errorf("%d, the number %d of its kind, is no group of its own", w, k)
			}
		}
	}
}

func TestNoSteps(t *testing.T) {
	l := []Step{{Kind: Unless}, {Kind: Wait, At: Ir, N: 7}}
	check := func(set, ix int, code uint8) {
		t.Helper()
		if got := program(set, ix, code); len(got) != 0 {
			t.Errorf("set %d, index %d, code %d: %v", set, ix, code, got)
		}
		if got := Program(l, set, ix, code); !slices.Equal(got, []Step{{Kind: Unless}, {Kind: Wait, At: Ir, N: 7}}) {
			t.Errorf("set %d, index %d, code %d behind steps: %v", set, ix, code, got)
		}
	}
	for _, ix := range append([]int{0, 1, 2, 3}, wild...) {
		for _, code := range []uint8{203, 221, 237, 253} {
			check(0, ix, code)
		}
		for _, code := range []uint8{0, 63, 119, 127, 128, 159, 164, 175, 180, 191, 192, 221, 255} {
			check(2, ix, code)
		}
		check(0, ix, 0)
		for _, set := range wild {
			for k := range 256 {
				check(set, ix, uint8(k))
			}
		}
	}
}

// An index that is neither 1 nor 2 is none; behind 203 and 237 there is none; and
// behind an index's prefix and 203 there is one, whatever it is said to be.
func TestWhereTheIndexCounts(t *testing.T) {
	for k := range 256 {
		code := uint8(k)
		if !slices.Equal(program(0, 1, code), program(0, 2, code)) {
			t.Errorf("code %d: both indexes have the same steps", code)
		}
		if got := slices.Equal(program(0, 0, code), program(0, 1, code)); got == op.Memory(code) {
			t.Errorf("code %d: the same with an index: %v", code, got)
		}
		for _, ix := range append([]int{1, 2, 3}, wild...) {
			if ix != 1 && ix != 2 && !slices.Equal(program(0, ix, code), program(0, 0, code)) {
				t.Errorf("code %d: %d is no index", code, ix)
			}
			for set := 1; set <= 3; set++ {
				if !slices.Equal(program(set, ix, code), program(set, 0, code)) {
					t.Errorf("set %d, code %d: the index %d counts", set, code, ix)
				}
			}
		}
	}
}

// 8.3

// ahead are lists that steps are put behind: with nothing, with some of all
// kinds, and with more room than they need.
func ahead() [][]Step {
	some := []Step{{Read, Pc, ByteD, 3}, {Unless, 0, IfB, 0}, {Wait, Last, 0, 5}, {Kind: -1, At: 99, What: -8, N: math.MinInt}}
	return [][]Step{nil, {}, {{}}, some, append(make([]Step, 0, 64), some...), slices.Repeat(some, 50)}
}

func TestStepsAreTheSameBehindAny(t *testing.T) {
	for k, l := range ahead() {
		programs(func(set, ix int, code uint8) {
			kept := slices.Clone(l)
			want := program(set, ix, code)
			got := Program(l, set, ix, code)
			if len(got) != len(l)+len(want) || !slices.Equal(got[:len(l)], kept) || !slices.Equal(got[len(l):], want) {
				t.Errorf("list %d, set %d, index %d, code %d: %v, not %v behind %v", k, set, ix, code, got, want, kept)
			}
			if !slices.Equal(l, kept) {
				t.Errorf("list %d, set %d, index %d, code %d: the list is %v", k, set, ix, code, l)
			}
		})
	}
}

func TestStepsAreNewMemory(t *testing.T) {
	programs(func(set, ix int, code uint8) {
		first := program(set, ix, code)
		kept := slices.Clone(first)
		for _, l := range [][]Step{program(set, ix, code), Program([]Step{}, set, ix, code)} {
			for n := range l {
				l[n] = Step{Kind: 99, At: 99, What: 99, N: 99}
			}
		}
		if again := program(set, ix, code); !slices.Equal(first, kept) || !slices.Equal(again, kept) {
			t.Errorf("set %d, index %d, code %d: %v and %v, not %v", set, ix, code, first, again, kept)
		}
	})
}

func TestFetchesAreTheBytesBehind(t *testing.T) {
	programs(func(set, ix int, code uint8) {
		want := 0
		switch {
		case set == 0:
			want = Bytes(ix, code)
		case set == 2 && code >= 64 && code < 128 && code%8 == 3:
			want = 2
		}
		if got := Fetches(program(set, ix, code)); got != want {
			t.Errorf("set %d, index %d, code %d: %d reads at Pc, not %d", set, ix, code, got, want)
		}
	})
}

// What layer 7 reads has as many bytes as are fetched.
func TestFetchesAreTheBytesRead(t *testing.T) {
	heads := map[[2]int][]byte{
		{0, 0}: {}, {0, 1}: {221}, {0, 2}: {253}, {1, 0}: {203}, {2, 0}: {237}, {3, 1}: {221, 203, 5}, {3, 2}: {253, 203, 5},
	}
	programs(func(set, ix int, code uint8) {
		head := heads[[2]int{set, ix}]
		i, ok := op.Read(append(slices.Clone(head), code, 1, 2, 3))
		if got := len(head) + 1 + Fetches(program(set, ix, code)); !ok || got != i.Len {
			t.Errorf("set %d, index %d, code %d: %d bytes, not %d", set, ix, code, got, i.Len)
		}
	})
}
