package op

import (
	"strconv"
	"strings"

	"squeal/wide"
)

// The names of what parts of a code number.
var (
	registers  = [8]string{"b", "c", "d", "e", "h", "l", "(hl)", "a"}
	pairs      = [4]string{"bc", "de", "hl", "sp"}
	conditions = [8]string{"nz", "z", "nc", "c", "po", "pe", "p", "m"}
	operations = [8]string{"add a,", "adc a,", "sub ", "sbc a,", "and ", "xor ", "or ", "cp "}
	turns      = [8]string{"rlc ", "rrc ", "rl ", "rr ", "sla ", "sra ", "sll ", "srl "}
	ofBits     = [4]string{"", "bit ", "res ", "set "}
	ofA        = [8]string{"rlca", "rrca", "rla", "rra", "daa", "cpl", "scf", "ccf"}
	ofI        = [8]string{"ld i,a", "ld r,a", "ld a,i", "ld a,r", "rrd", "rld", "nop", "nop"}
	modes      = [4]string{"im 0", "im 0", "im 1", "im 2"}
	blocks     = [4][4]string{
		{"ldi", "cpi", "ini", "outi"},
		{"ldd", "cpd", "ind", "outd"},
		{"ldir", "cpir", "inir", "otir"},
		{"lddr", "cpdr", "indr", "otdr"},
	}
)

// Show is an instruction as text.
func Show(i Ins, pc uint16) string {
	switch i.Set {
	case setPlain:
		return plainText(i, pc)
	case setTurns:
		c := cut(i.Code)
		return turnText(c, registers[c.z])
	case setMore:
		return moreText(i)
	case setIndexed:
		return indexedText(i)
	case setPrefix:
		return "prefix " + indexName(i.Ix)
	}
	return ""
}

// plainText is the text of a plain code.
func plainText(i Ins, pc uint16) string {
	c := cut(i.Code)
	switch {
	case i.Code == halt:
		return "halt"
	case c.x == 0:
		return firstText(i, c, pc)
	case c.x == 1:
		return "ld " + register(i, c.y) + "," + register(i, c.z)
	case c.x == 2:
		return operations[c.y] + register(i, c.z)
	}
	return lastText(i, c)
}

// firstText is the text of a plain code whose x is 0.
func firstText(i Ins, c parts, pc uint16) string {
	switch c.z {
	case 0:
		return nearText(i, c, pc)
	case 1:
		if c.q == 0 {
			return "ld " + pair(i, c.p) + "," + word(i.N)
		}
		return "add " + pair(i, pairHL) + "," + pair(i, c.p)
	case 2:
		return storeText(i, c)
	case 3:
		if c.q == 0 {
			return "inc " + pair(i, c.p)
		}
		return "dec " + pair(i, c.p)
	case 4:
		return "inc " + register(i, c.y)
	case 5:
		return "dec " + register(i, c.y)
	case 6:
		return "ld " + register(i, c.y) + "," + octet(i.N)
	}
	return ofA[c.y]
}

// nearText is the text of the jumps over a distance, and of the two codes that
// stand ahead of them.
func nearText(i Ins, c parts, pc uint16) string {
	switch c.y {
	case 0:
		return "nop"
	case 1:
		return "ex af,af'"
	case 2:
		return "djnz " + target(i, pc)
	case 3:
		return "jr " + target(i, pc)
	}
	return "jr " + conditions[c.y-4] + "," + target(i, pc)
}

// storeText is the text of the loads of A and HL from places that are told by a
// pair or a word, and to them.
func storeText(i Ins, c parts) string {
	what, place := "a", word(i.N)
	switch c.p {
	case 0, 1:
		place = pairs[c.p]
	case 2:
		what = pair(i, pairHL)
	}
	return loadText(what, place, c.q)
}

// loadText is the text of a load to a place, or, of q 1, from it.
func loadText(what, place string, q uint8) string {
	if q == 0 {
		return "ld (" + place + ")," + what
	}
	return "ld " + what + ",(" + place + ")"
}

// lastText is the text of a plain code whose x is 3.
func lastText(i Ins, c parts) string {
	switch c.z {
	case 0:
		return "ret " + conditions[c.y]
	case 1:
		if c.q == 0 {
			return "pop " + pushed(i, c.p)
		}
		return backText(i, c)
	case 2:
		return "jp " + conditions[c.y] + "," + word(i.N)
	case 3:
		return otherText(i, c)
	case 4:
		return "call " + conditions[c.y] + "," + word(i.N)
	case 5:
		if c.q == 0 {
			return "push " + pushed(i, c.p)
		}
		return "call " + word(i.N)
	case 6:
		return operations[c.y] + octet(i.N)
	}
	return "rst " + octet(8*uint16(c.y))
}

// backText is the text of the codes whose x is 3, z 1 and q 1.
func backText(i Ins, c parts) string {
	switch c.p {
	case 0:
		return "ret"
	case 1:
		return "exx"
	case 2:
		return "jp " + pair(i, pairHL)
	}
	return "ld sp," + pair(i, pairHL)
}

// otherText is the text of the codes whose x and z are 3.
func otherText(i Ins, c parts) string {
	switch c.y {
	case 0:
		return "jp " + word(i.N)
	case 1:
		// A prefix has no text of its own.
		return ""
	case 2:
		return "out (" + octet(i.N) + "),a"
	case 3:
		return "in a,(" + octet(i.N) + ")"
	case 4:
		return "ex (sp)," + pair(i, pairHL)
	case 5:
		// This exchange is with HL itself, whatever index there is.
		return "ex de,hl"
	case 6:
		return "di"
	}
	return "ei"
}

// turnText is the text of a code behind 203 that goes to the thing of a name.
func turnText(c parts, name string) string {
	if c.x == 0 {
		return turns[c.y] + name
	}
	return ofBits[c.x] + strconv.Itoa(int(c.y)) + "," + name
}

// indexedText is the text of a code behind an index's prefix and 203.
func indexedText(i Ins) string {
	c := cut(i.Code)
	text := turnText(c, indexed(i))
	// A test writes nothing, so that there is nothing that a register gets too.
	if c.x == 1 || c.z == regMemory {
		return text
	}
	return text + "," + registers[c.z]
}

// moreText is the text of a code behind 237.
func moreText(i Ins) string {
	c := cut(i.Code)
	switch {
	case c.x == 1:
		return middleText(i, c)
	case c.x == 2 && c.y >= 4 && c.z <= 3:
		return blocks[c.y-4][c.z]
	}
	return "nop"
}

// middleText is the text of a code behind 237 whose x is 1.
func middleText(i Ins, c parts) string {
	switch c.z {
	case 0:
		if c.y == regMemory {
			return "in (c)"
		}
		return "in " + registers[c.y] + ",(c)"
	case 1:
		if c.y == regMemory {
			return "out (c),0"
		}
		return "out (c)," + registers[c.y]
	case 2:
		if c.q == 0 {
			return "sbc hl," + pairs[c.p]
		}
		return "adc hl," + pairs[c.p]
	case 3:
		return loadText(pairs[c.p], word(i.N), c.q)
	case 4:
		return "neg"
	case 5:
		if c.y == 1 {
			return "reti"
		}
		return "retn"
	case 6:
		return modes[c.y%4]
	}
	return ofI[c.y]
}

// hasIndex tells whether an index stands in the place of HL in a plain code.
func hasIndex(i Ins) bool {
	return i.Ix == indexX || i.Ix == indexY
}

// indexName is the name of the index ix.
func indexName(ix int) string {
	if ix == indexX {
		return "ix"
	}
	return "iy"
}

// indexed is the place in memory at an index and a distance.
func indexed(i Ins) string {
	d := strconv.Itoa(int(int8(i.D)))
	if i.D < 128 {
		d = "+" + d
	}
	return "(" + indexName(i.Ix) + d + ")"
}

// register is the name of the register k in a plain code.
func register(i Ins, k uint8) string {
	switch {
	case !hasIndex(i):
		return registers[k]
	case k == regMemory:
		return indexed(i)
	case (k == regH || k == regL) && !Memory(i.Code):
		return indexName(i.Ix) + registers[k]
	}
	return registers[k]
}

// pair is the name of the pair k in a plain code.
func pair(i Ins, k uint8) string {
	if k == pairHL && hasIndex(i) {
		return indexName(i.Ix)
	}
	return pairs[k]
}

// pushed is the name of the pair k where it is pushed and popped.
func pushed(i Ins, k uint8) string {
	if k == 3 {
		return "af"
	}
	return pair(i, k)
}

// target is the place that a distance leads to.
func target(i Ins, pc uint16) string {
	behind := pc + uint16(i.Len)
	return word(wide.Plus(behind, wide.Lo(i.N)))
}

// octet is the lower byte of n as text.
func octet(n uint16) string {
	return hex(uint16(wide.Lo(n)), 2)
}

// word is w as text.
func word(w uint16) string {
	return hex(w, 4)
}

// hex is w as a sign and so many digits of the base 16.
func hex(w uint16, digits int) string {
	text := strconv.FormatUint(uint64(w), 16)
	return "$" + strings.Repeat("0", digits-len(text)) + text
}
