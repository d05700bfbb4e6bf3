package micro

// modes are the interrupts' modes, by y modulo 4.
var modes = [4]int{0, 0, 1, 2}

// onBits is the work behind 203 of a register, or of the latch.
func onBits(c parts, reg int) Step {
	switch c.x {
	case 0:
		return work(which(DoTurn, c.y), reg)
	case 1:
		return work(which(DoBit, c.y), reg)
	case 2:
		return work(which(DoRes, c.y), reg)
	}
	return work(which(DoSet, c.y), reg)
}

// turns is a code behind 203.
func turns(l []Step, c parts) []Step {
	if c.z == regLatch {
		return bitsOfMemory(l, c)
	}
	return put(l, onBits(c, c.z))
}

// bitsOfMemory is a code behind 203 that goes to memory; a test writes nothing.
func bitsOfMemory(l []Step, c parts) []Step {
	if c.x == 1 {
		return put(l, read(Mem, latch), wait(Last, 1), onBits(c, regLatch))
	}
	return change(l, onBits(c, regLatch))
}

// indexed is a code behind an index's prefix and 203. A register that it names
// gets what is written too, so that behind a test there is nothing to be kept.
func indexed(l []Step, c parts) []Step {
	if c.x == 1 || c.z == regLatch {
		return bitsOfMemory(l, c)
	}
	return change(l, onBits(c, regLatch), work(DoKeep, c.z))
}

// more is a code behind 237.
func more(l []Step, c parts) []Step {
	switch {
	case c.x == 1:
		return middle(l, c)
	case c.x == 2 && c.y >= 4 && c.z <= 3:
		return block(l, c)
	}
	return l
}

// middle is a code behind 237 whose x is 1.
func middle(l []Step, c parts) []Step {
	switch c.z {
	case 0:
		return put(l, work(DoPoint, pairBC), work(DoNext, 1), in(Bc, latch), work(DoInput, c.y))
	case 1:
		return put(l, work(DoPoint, pairBC), work(DoNext, 1), out(Bc, sent(c.y)))
	case 2:
		if c.q == 0 {
			return sum(l, DoSbc, c.p)
		}
		return sum(l, DoAdc, c.p)
	case 3:
		return farPair(word(l), c.p, c.q)
	case 4:
		return put(l, work(DoNeg, 0))
	case 5:
		return put(back(l), work(DoRestore, 0))
	case 6:
		return put(l, work(DoMode, modes[c.y%4]))
	}
	return special(l, c.y)
}

// sent is the byte that out (c),REG sends: there is no register 6, and it sends 0.
func sent(reg int) What {
	if reg == regLatch {
		return ByteNought
	}
	return which(ByteReg, reg)
}

// special is the codes behind 237 whose x is 1 and z 7.
func special(l []Step, y int) []Step {
	switch y {
	case 0, 1, 2, 3:
		return put(l, wait(Ir, 1), work(which(DoSpecial, y), 0))
	case 4:
		return digits(l, DoRrd)
	case 5:
		return digits(l, DoRld)
	}
	return l
}

// digits is rrd and rld.
func digits(l []Step, what What) []Step {
	l = put(l, work(DoPoint, pairHL), work(DoNext, 1), read(Mem, latch), wait(Last, 4))
	return put(l, work(what, 0), write(Mem, latch))
}

// block is the operations that go over memory and ports: by y their direction,
// and whether they go on.
func block(l []Step, c parts) []Step {
	way := 1
	if c.y&1 == 1 {
		way = -1
	}
	l = once(l, c.z, way)
	if c.y < 6 {
		return l
	}
	return again(l, c.z)
}

// once is what an operation of a block does with one byte.
func once(l []Step, z, way int) []Step {
	switch z {
	case 0:
		return put(l, read(Mem, latch), write(De, latch), wait(Last, 2), work(DoCopied, way))
	case 1:
		return put(l, read(Mem, latch), wait(Last, 5), work(DoSought, way), work(DoNext, way))
	case 2:
		l = put(l, wait(Ir, 1), work(DoPoint, pairBC), work(DoNext, way))
		l = put(l, in(Bc, latch), write(Mem, latch))
		return put(l, work(DoDecB, 0), work(DoCame, way))
	}
	l = put(l, wait(Ir, 1), read(Mem, latch))
	l = put(l, work(DoDecB, 0), work(DoPoint, pairBC), work(DoNext, way))
	return put(l, out(Bc, latch), work(DoWent, way))
}

// again has an operation of a block go on, if there is more to be done.
func again(l []Step, z int) []Step {
	switch z {
	case 0:
		return put(l, unless(IfBc), wait(Last, 5), work(DoAgain, 0))
	case 1:
		return put(l, unless(IfMore), wait(Last, 5), work(DoAgain, 0))
	}
	return put(l, unless(IfB), wait(Last, 5), work(DoPortAgain, 0))
}
