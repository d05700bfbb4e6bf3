package micro

import (
	"squeal/op"
)

// The plain codes that are unlike those around them.
const (
	codeHalt  = 118
	codeStore = 54 // ld (hl),n
)

// The registers' and the pairs' numbers that codes mean without telling them.
// Where bytes are pushed and popped, AF stands in the place of SP.
const (
	regLatch = 6
	regA     = 7

	pairBC = 0
	pairHL = 2
	pairSP = 3
	pairAF = 3
)

// The bytes of those registers.
const (
	latch = ByteReg + regLatch
	byteA = ByteReg + regA
)

// parts is a code, cut into its bits.
type parts struct {
	x, y, z, p, q int
}

// cut is the parts of a code.
func cut(code uint8) parts {
	c := int(code)
	return parts{x: c >> 6, y: c >> 3 & 7, z: c & 7, p: c >> 4 & 3, q: c >> 3 & 1}
}

// put is l, and steps behind it.
func put(l []Step, steps ...Step) []Step {
	return append(l, steps...)
}

// wait is n T-states at a place.
func wait(at Place, n int) Step {
	return Step{Kind: Wait, At: at, N: n}
}

// read has a byte be what is read at a place.
func read(at Place, to What) Step {
	return Step{Kind: Read, At: at, What: to}
}

// write writes a byte at a place.
func write(at Place, from What) Step {
	return Step{Kind: Write, At: at, What: from}
}

// in has a byte be what comes from a port.
func in(port Place, to What) Step {
	return Step{Kind: In, At: port, What: to}
}

// out sends a byte to a port.
func out(port Place, from What) Step {
	return Step{Kind: Out, At: port, What: from}
}

// work is a work that takes a number.
func work(what What, n int) Step {
	return Step{Kind: Work, What: what, N: n}
}

// unless leaves out all further steps, if a condition isn't met.
func unless(what What) Step {
	return Step{Kind: Unless, What: what}
}

// which is the What of a number within a group.
func which(group What, n int) What {
	return group + What(n)
}

// low is the lower byte of a pair.
func low(pair int) What {
	if pair == pairSP {
		return ByteSpLow
	}
	return which(ByteReg, 2*pair+1)
}

// high is the upper byte of a pair.
func high(pair int) What {
	if pair == pairSP {
		return ByteSpHigh
	}
	return which(ByteReg, 2*pair)
}

// plain is the steps of a plain code, with an index or without.
func plain(l []Step, code uint8, index bool) []Step {
	c := cut(code)
	switch {
	case code == codeHalt:
		return put(l, work(DoHalt, 0))
	case code == codeStore:
		return storeNumber(l, index)
	case op.Memory(code):
		return throughMemory(l, c, index)
	case c.x == 0:
		return first(l, c)
	case c.x == 1:
		return put(l, work(which(DoLoad, c.y), c.z))
	case c.x == 2:
		return put(l, work(which(DoOperate, c.y), c.z))
	}
	return last(l, c)
}

// storeNumber is ld (hl),n. The index is reckoned while n is read, so that less
// is waited for it than elsewhere.
func storeNumber(l []Step, index bool) []Step {
	if index {
		return put(l, read(Pc, ByteD), work(DoReckon, 0), read(Pc, latch), wait(Last, 2), write(Mem, latch))
	}
	return put(l, read(Pc, latch), write(Mem, latch))
}

// throughMemory is a plain code that goes to memory at HL.
func throughMemory(l []Step, c parts, index bool) []Step {
	if index {
		l = put(l, read(Pc, ByteD), wait(Last, 5), work(DoReckon, 0))
	}
	switch {
	case c.x == 0 && c.z == 4:
		return change(l, work(DoInc, regLatch))
	case c.x == 0:
		return change(l, work(DoDec, regLatch))
	case c.x == 2:
		return put(l, read(Mem, latch), work(which(DoOperate, c.y), regLatch))
	case c.z == regLatch:
		return put(l, read(Mem, which(ByteOwn, c.y)))
	}
	return put(l, write(Mem, which(ByteOwn, c.z)))
}

// change reads a byte of memory, works on it, and writes it back.
func change(l []Step, works ...Step) []Step {
	l = put(l, read(Mem, latch), wait(Last, 1))
	l = put(l, works...)
	return put(l, write(Mem, latch))
}

// first is a plain code whose x is 0.
func first(l []Step, c parts) []Step {
	switch c.z {
	case 0:
		return near(l, c)
	case 1:
		if c.q == 0 {
			return put(l, read(Pc, low(c.p)), read(Pc, high(c.p)))
		}
		return sum(l, DoAdd, c.p)
	case 2:
		return far(l, c)
	case 3:
		if c.q == 0 {
			return put(l, wait(Ir, 2), work(DoIncPair, c.p))
		}
		return put(l, wait(Ir, 2), work(DoDecPair, c.p))
	case 4:
		return put(l, work(DoInc, c.y))
	case 5:
		return put(l, work(DoDec, c.y))
	case 6:
		return put(l, read(Pc, which(ByteReg, c.y)))
	}
	return put(l, work(which(DoAdjust, c.y), 0))
}

// near is the jumps over a distance, and the two codes that stand ahead of them.
func near(l []Step, c parts) []Step {
	switch c.y {
	case 0:
		return l
	case 1:
		return put(l, work(DoExAf, 0))
	case 2:
		l = put(l, wait(Ir, 1), work(DoDecB, 0), read(Pc, ByteD), unless(IfB))
	case 3:
		l = put(l, read(Pc, ByteD))
	default:
		l = put(l, read(Pc, ByteD), unless(which(IfFlag, c.y-4)))
	}
	return put(l, wait(Last, 5), work(DoJumpNear, 0))
}

// sum is a work of HL and a pair.
func sum(l []Step, what What, pair int) []Step {
	return put(l, wait(Ir, 7), work(DoPoint, pairHL), work(DoNext, 1), work(what, pair))
}

// far is the loads of A and HL from places that are told by a pair or a word,
// and to them.
func far(l []Step, c parts) []Step {
	switch c.p {
	case 0:
		return farA(put(l, work(DoPoint, c.p)), Bc, c.q)
	case 1:
		return farA(put(l, work(DoPoint, c.p)), De, c.q)
	case 2:
		return farPair(word(l), pairHL, c.q)
	}
	return farA(word(l), Wz, c.q)
}

// word has WZ be the word behind the code.
func word(l []Step) []Step {
	return put(l, read(Pc, ByteZ), read(Pc, ByteW))
}

// farA is a load of A to a place, or, of q 1, from it, at which WZ is too.
func farA(l []Step, at Place, q int) []Step {
	if q == 0 {
		return put(l, write(at, byteA), work(DoNext, 1), work(DoAbove, 0))
	}
	return put(l, read(at, byteA), work(DoNext, 1))
}

// farPair is a load of a pair to WZ's place, or, of q 1, from it.
func farPair(l []Step, pair, q int) []Step {
	if q == 0 {
		return put(l, write(Wz, low(pair)), work(DoNext, 1), write(Wz, high(pair)))
	}
	return put(l, read(Wz, low(pair)), work(DoNext, 1), read(Wz, high(pair)))
}

// last is a plain code whose x is 3.
func last(l []Step, c parts) []Step {
	switch c.z {
	case 0:
		return back(put(l, wait(Ir, 1), unless(which(IfFlag, c.y))))
	case 1:
		if c.q == 0 {
			return pop(l, c.p)
		}
		return behindPop(l, c.p)
	case 2:
		return put(word(l), unless(which(IfFlag, c.y)), work(DoJump, 0))
	case 3:
		return others(l, c.y)
	case 4:
		return call(put(word(l), unless(which(IfFlag, c.y))))
	case 5:
		return pushOrCall(l, c)
	case 6:
		return put(l, read(Pc, latch), work(which(DoOperate, c.y), regLatch))
	}
	return put(pushPc(put(l, wait(Ir, 1))), work(DoRestart, 8*c.y))
}

// back goes where the word on the stack tells.
func back(l []Step) []Step {
	return put(l, read(Sp, ByteZ), read(Sp, ByteW), work(DoJump, 0))
}

// pop takes a pair off the stack.
func pop(l []Step, pair int) []Step {
	if pair == pairAF {
		return put(l, read(Sp, ByteF), read(Sp, byteA))
	}
	return put(l, read(Sp, low(pair)), read(Sp, high(pair)))
}

// push puts a pair on the stack.
func push(l []Step, pair int) []Step {
	if pair == pairAF {
		return put(l, write(Down, byteA), write(Down, ByteF))
	}
	return put(l, write(Down, high(pair)), write(Down, low(pair)))
}

// pushPc puts PC on the stack.
func pushPc(l []Step) []Step {
	return put(l, write(Down, BytePcHigh), write(Down, BytePcLow))
}

// behindPop is the plain codes whose x is 3, z 1 and q 1.
func behindPop(l []Step, p int) []Step {
	switch p {
	case 0:
		return back(l)
	case 1:
		return put(l, work(DoExx, 0))
	case 2:
		return put(l, work(DoJumpHl, 0))
	}
	return put(l, wait(Ir, 2), work(DoLoadSp, 0))
}

// others is the plain codes whose x and z are 3.
func others(l []Step, y int) []Step {
	switch y {
	case 0:
		return put(word(l), work(DoJump, 0))
	case 1:
		// A prefix has no steps of its own.
		return l
	case 2:
		l = put(l, read(Pc, ByteZ), work(DoAbove, 0), out(Wz, byteA))
		return put(l, work(DoNext, 1), work(DoAbove, 0))
	case 3:
		return put(l, read(Pc, ByteZ), work(DoAbove, 0), in(Wz, byteA), work(DoNext, 1))
	case 4:
		return exchangeTop(l)
	case 5:
		return put(l, work(DoExDe, 0))
	case 6:
		return put(l, work(DoDi, 0))
	}
	return put(l, work(DoEi, 0))
}

// exchangeTop is ex (sp),hl.
func exchangeTop(l []Step) []Step {
	l = put(l, read(Sp, ByteZ), read(Top, ByteW), wait(Last, 1))
	l = put(l, write(Top, high(pairHL)), write(Down, low(pairHL)), wait(Last, 2))
	return put(l, work(DoTakeTop, 0))
}

// call goes to WZ's place, and leaves on the stack where to come back.
func call(l []Step) []Step {
	return put(pushPc(put(l, wait(Last, 1))), work(DoJump, 0))
}

// pushOrCall is the plain codes whose x is 3 and z 5.
func pushOrCall(l []Step, c parts) []Step {
	switch {
	case c.q == 0:
		return push(put(l, wait(Ir, 1)), c.p)
	case c.p == 0:
		return call(word(l))
	}
	// A prefix has no steps of its own.
	return l
}
