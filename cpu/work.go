package cpu

import (
	"squeal/alu"
	"squeal/api"
	"squeal/bulk"
	"squeal/flag"
	"squeal/micro"
	"squeal/regs"
	"squeal/turn"
	"squeal/wide"
)

// regLatch is the register's number that stands for the latch: what was read of
// memory or a port, and what is written there.
const regLatch = 6

// The pairs' numbers.
const (
	pairBC = iota
	pairDE
	pairHL
)

// reg is the register k, with the index.
func (c *CPU) reg(k int) uint8 {
	if k == regLatch {
		return c.latch
	}
	return regs.Byte(&c.R, k, c.ix)
}

// putReg makes the register k, with the index, v.
func (c *CPU) putReg(k int, v uint8) {
	if k == regLatch {
		c.latch = v
		return
	}
	regs.PutByte(&c.R, k, c.ix, v)
}

// pair is the pair k, with the index.
func (c *CPU) pair(k int) uint16 {
	return regs.Pair(&c.R, k, c.ix)
}

// addTo has the pair k, with the index, be n more.
func (c *CPU) addTo(k, n int) {
	regs.PutPair(&c.R, k, c.ix, c.pair(k)+uint16(n))
}

// putF makes F what was reckoned.
func (c *CPU) putF(f uint8) {
	c.R.F = f
	c.reckoned = true
}

// putAF makes A and F what was reckoned.
func (c *CPU) putAF(a, f uint8) {
	c.R.A = a
	c.putF(f)
}

// work is a work, which takes no time.
func (c *CPU) work(s micro.Step) {
	group, k := split(s.What)
	switch {
	case group < micro.DoIncPair:
		c.workBytes(group, k, s.N)
	case group < micro.DoExAf:
		c.workWords(group, s.N)
	default:
		c.workOthers(group, s.N)
	}
}

// workBytes is a work of bytes: of the register n, or of the latch.
func (c *CPU) workBytes(group micro.What, k, n int) {
	switch group {
	case micro.DoOperate:
		c.putAF(alu.Do(k, c.R.A, c.reg(n), c.R.F))
	case micro.DoTurn:
		v, f := turn.Do(k, c.reg(n), c.R.F)
		c.putReg(n, v)
		c.putF(f)
	case micro.DoBit:
		c.putF(turn.Bit(k, c.reg(n), c.bitsBeside(n), c.R.F))
	case micro.DoRes:
		c.putReg(n, turn.Res(k, c.reg(n)))
	case micro.DoSet:
		c.putReg(n, turn.Set(k, c.reg(n)))
	case micro.DoLoad:
		c.putReg(k, c.reg(n))
	case micro.DoKeep:
		regs.PutByte(&c.R, n, 0, c.latch)
	case micro.DoInc:
		v, f := alu.Inc(c.reg(n), c.R.F)
		c.putReg(n, v)
		c.putF(f)
	case micro.DoDec:
		v, f := alu.Dec(c.reg(n), c.R.F)
		c.putReg(n, v)
		c.putF(f)
	case micro.DoAdjust:
		c.adjust(k)
	case micro.DoNeg:
		c.putAF(alu.Neg(c.R.A))
	case micro.DoInput:
		c.putReg(n, c.latch)
		c.putF(c.keepC(flag.OfP(c.latch)))
	case micro.DoSpecial:
		c.special(k)
	case micro.DoRrd:
		a, m, f := turn.Rrd(c.R.A, c.latch, c.R.F)
		c.latch = m
		c.putAF(a, f)
	case micro.DoRld:
		a, m, f := turn.Rld(c.R.A, c.latch, c.R.F)
		c.latch = m
		c.putAF(a, f)
	case micro.DoDecB:
		c.R.B--
	}
}

// bitsBeside is where a test of the register n takes Y and X from.
func (c *CPU) bitsBeside(n int) uint8 {
	if n == regLatch {
		return wide.Hi(c.R.WZ)
	}
	return c.reg(n)
}

// keepC is f with the C that was there.
func (c *CPU) keepC(f uint8) uint8 {
	return flag.With(f, api.FlagC, flag.Has(c.R.F, api.FlagC))
}

// adjust is the works of the accumulator and of F.
func (c *CPU) adjust(k int) {
	r := &c.R
	switch k {
	case 0, 1, 2, 3:
		c.putAF(turn.Acc(k, r.A, r.F))
	case 4:
		c.putAF(alu.Daa(r.A, r.F))
	case 5:
		c.putAF(alu.Cpl(r.A, r.F))
	case 6:
		c.putF(alu.Scf(r.A, r.F, r.Q))
	case 7:
		c.putF(alu.Ccf(r.A, r.F, r.Q))
	}
}

// special is the loads between A and I or R.
func (c *CPU) special(k int) {
	r := &c.R
	switch k {
	case 0:
		r.I = r.A
	case 1:
		r.R = r.A
	case 2:
		c.loadA(r.I)
	case 3:
		c.loadA(r.R)
	}
}

// loadA makes A what I or R is; P is IFF2.
func (c *CPU) loadA(v uint8) {
	c.putAF(v, flag.With(c.keepC(flag.Of(v)), api.FlagP, c.R.IFF2))
}

// workWords is a work of words: of the pair n, or with the number n.
func (c *CPU) workWords(group micro.What, n int) {
	r := &c.R
	switch group {
	case micro.DoIncPair:
		c.addTo(n, 1)
	case micro.DoDecPair:
		c.addTo(n, -1)
	case micro.DoAdd:
		c.sum(wide.Add(c.pair(pairHL), c.pair(n), r.F))
	case micro.DoAdc:
		c.sum(wide.Adc(c.pair(pairHL), c.pair(n), r.F))
	case micro.DoSbc:
		c.sum(wide.Sbc(c.pair(pairHL), c.pair(n), r.F))
	case micro.DoPoint:
		r.WZ = c.pair(n)
	case micro.DoNext:
		r.WZ += uint16(n)
	case micro.DoAbove:
		r.WZ = wide.Of(r.A, wide.Lo(r.WZ))
	case micro.DoReckon:
		c.reckon()
	case micro.DoLoadSp:
		r.SP = c.pair(pairHL)
	case micro.DoTakeTop:
		regs.PutPair(r, pairHL, c.ix, r.WZ)
	case micro.DoJump:
		r.PC = r.WZ
	case micro.DoJumpHl:
		r.PC = c.pair(pairHL)
	case micro.DoJumpNear:
		r.PC = wide.Plus(r.PC, c.distance)
		r.WZ = r.PC
	case micro.DoRestart:
		r.PC = uint16(n)
		r.WZ = r.PC
	}
}

// sum makes HL, or the index, and F what was reckoned.
func (c *CPU) sum(w uint16, f uint8) {
	regs.PutPair(&c.R, pairHL, c.ix, w)
	c.putF(f)
}

// reckon has WZ be the index and the distance.
func (c *CPU) reckon() {
	c.R.WZ = wide.Plus(c.pair(pairHL), c.distance)
}

// workOthers is the works of neither; of a block n is the direction.
func (c *CPU) workOthers(group micro.What, n int) {
	r := &c.R
	switch group {
	case micro.DoExAf:
		regs.ExAf(r)
	case micro.DoExx:
		regs.Exx(r)
	case micro.DoExDe:
		regs.ExDe(r)
	case micro.DoHalt:
		r.Halt = true
	case micro.DoDi:
		r.IFF1, r.IFF2 = false, false
	case micro.DoEi:
		r.IFF1, r.IFF2, r.Hold = true, true, true
	case micro.DoMode:
		r.IM = uint8(n)
	case micro.DoRestore:
		r.IFF1 = r.IFF2
	case micro.DoCopied:
		c.addTo(pairDE, n)
		c.blockOn(n)
		c.putF(bulk.Copy(r.A, c.latch, c.pair(pairBC), r.F))
	case micro.DoSought:
		c.blockOn(n)
		c.putF(bulk.Find(r.A, c.latch, c.pair(pairBC), r.F))
	case micro.DoCame:
		c.addTo(pairHL, n)
		c.putF(bulk.Port(c.latch, r.C+uint8(n), r.B))
	case micro.DoWent:
		c.addTo(pairHL, n)
		c.putF(bulk.Port(c.latch, r.L, r.B))
	case micro.DoAgain:
		c.onceMore()
		c.putF(bulk.Again(r.F, r.PC))
	case micro.DoPortAgain:
		c.onceMore()
		c.putF(bulk.PortAgain(r.F, c.latch, r.B, r.PC))
	}
}

// blockOn has HL go on by n, and BC be one less.
func (c *CPU) blockOn(n int) {
	c.addTo(pairHL, n)
	c.addTo(pairBC, -1)
}

// onceMore has PC be at the operation again.
func (c *CPU) onceMore() {
	c.R.PC -= 2
	c.R.WZ = c.R.PC + 1
}
