package cpu

import (
	"squeal/api"
	"squeal/flag"
	"squeal/micro"
	"squeal/regs"
	"squeal/wide"
)

// goOn does the steps up to the next one that takes time. What ends without one
// ends the instruction.
func (c *CPU) goOn() {
	for c.next < len(c.steps) {
		s := c.steps[c.next]
		c.next++
		switch s.Kind {
		case micro.Work:
			c.work(s)
		case micro.Unless:
			if !c.met(s.What) {
				c.finish()
				return
			}
		default:
			c.cycleOf(s)
			return
		}
	}
	c.finish()
}

// cycleOf has the cycle of a step be there.
func (c *CPU) cycleOf(s micro.Step) {
	addr := c.place(s.At)
	switch s.Kind {
	case micro.Wait:
		c.waits = s.N - 1
		c.start(aimStep, Idle, addr, idleTime)
	case micro.Read:
		c.start(aimStep, Read, addr, memoryTime)
	case micro.Write:
		c.start(aimStep, Write, addr, memoryTime)
	default:
		c.start(aimStep, Port, addr, portTime)
	}
}

// access is what a step does at its cycle's last T-state.
func (c *CPU) access(b Bus, s micro.Step) {
	addr := c.cycle.addr
	switch s.Kind {
	case micro.Wait:
		if c.waits > 0 {
			c.waits--
			c.start(aimStep, Idle, addr, idleTime)
			return
		}
	case micro.Read:
		c.putByte(s.What, b.Read(addr))
		c.behind(s.At)
	case micro.Write:
		b.Write(addr, c.byteOf(s.What))
	case micro.In:
		c.putByte(s.What, b.In(addr))
	case micro.Out:
		b.Out(addr, c.byteOf(s.What))
	}
	c.goOn()
}

// place is where a cycle is.
func (c *CPU) place(at micro.Place) uint16 {
	switch at {
	case micro.Pc:
		return c.R.PC
	case micro.Mem:
		// The index and its distance stand in WZ by then.
		if c.ix != 0 {
			return c.R.WZ
		}
		return c.pair(pairHL)
	case micro.Bc:
		return c.pair(pairBC)
	case micro.De:
		return c.pair(pairDE)
	case micro.Down:
		c.R.SP--
		return c.R.SP
	case micro.Sp, micro.Top:
		return c.R.SP
	case micro.Wz:
		return c.R.WZ
	case micro.Ir:
		return regs.Ir(&c.R)
	}
	return c.cycle.addr
}

// behind counts on what goes on by itself when a byte was read there.
func (c *CPU) behind(at micro.Place) {
	switch at {
	case micro.Pc:
		c.R.PC++
	case micro.Sp:
		c.R.SP++
	}
}

// split is a What's group, and which one of the group it is.
func split(what micro.What) (micro.What, int) {
	return what &^ micro.Which, int(what & micro.Which)
}

// byteOf is the byte that a step writes or sends.
func (c *CPU) byteOf(what micro.What) uint8 {
	group, k := split(what)
	switch group {
	case micro.ByteReg:
		return c.reg(k)
	case micro.ByteOwn:
		return regs.Byte(&c.R, k, 0)
	case micro.ByteF:
		return c.R.F
	case micro.ByteSpLow:
		return wide.Lo(c.R.SP)
	case micro.ByteSpHigh:
		return wide.Hi(c.R.SP)
	case micro.BytePcLow:
		return wide.Lo(c.R.PC)
	case micro.BytePcHigh:
		return wide.Hi(c.R.PC)
	}
	return 0
}

// putByte has what a step read, or what came in, be v.
func (c *CPU) putByte(what micro.What, v uint8) {
	group, k := split(what)
	switch group {
	case micro.ByteReg:
		c.putReg(k, v)
	case micro.ByteOwn:
		regs.PutByte(&c.R, k, 0, v)
	case micro.ByteF:
		c.R.F = v
	case micro.ByteZ:
		c.R.WZ = wide.Of(wide.Hi(c.R.WZ), v)
	case micro.ByteW:
		c.R.WZ = wide.Of(v, wide.Lo(c.R.WZ))
	case micro.ByteD:
		c.distance = v
	case micro.ByteSpLow:
		c.R.SP = wide.Of(wide.Hi(c.R.SP), v)
	case micro.ByteSpHigh:
		c.R.SP = wide.Of(v, wide.Lo(c.R.SP))
	}
}

// met tells whether a condition is met.
func (c *CPU) met(what micro.What) bool {
	group, k := split(what)
	switch group {
	case micro.IfFlag:
		return flag.Cond(c.R.F, k)
	case micro.IfB:
		return c.R.B != 0
	case micro.IfBc:
		return c.pair(pairBC) != 0
	}
	// What is left is IfMore.
	return c.pair(pairBC) != 0 && !flag.Has(c.R.F, api.FlagZ)
}
