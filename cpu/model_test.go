package cpu

import (
	"squeal/alu"
	"squeal/api"
	"squeal/bulk"
	"squeal/flag"
	"squeal/turn"
	"squeal/wide"
)

// event is something that a bus was asked or told, and when.
type event struct {
	t    uint64
	what string
	kind int
	addr uint16
	k    int
	v    uint8
}

// plot is a bus that notes all that it is asked and told. It holds so long as
// hangs on what it is asked, if it is slow.
type plot struct {
	m    [65536]uint8
	t    uint64
	line bool
	slow bool
	ins  int
	l    []event
}

func (p *plot) note(what string, kind int, addr uint16, k int, v uint8) {
	p.l = append(p.l, event{p.t, what, kind, addr, k, v})
}

func (p *plot) Hold(kind int, addr uint16, k int) int {
	p.note("hold", kind, addr, k, 0)
	if !p.slow {
		return 0
	}
	// From -1 to 3: what is below 0 is as 0.
	return (kind*5+int(addr)*3+k*7+int(p.t/2))%5 - 1
}

func (p *plot) Read(addr uint16) uint8 {
	p.note("read", 0, addr, 0, p.m[addr])
	return p.m[addr]
}

func (p *plot) Write(addr uint16, v uint8) {
	p.note("write", 0, addr, 0, v)
	p.m[addr] = v
}

func (p *plot) In(port uint16) uint8 {
	p.ins++
	v := uint8(int(port)*37 + p.ins*101 + int(port>>8)*11)
	p.note("in", 0, port, 0, v)
	return v
}

func (p *plot) Out(port uint16, v uint8) { p.note("out", 0, port, 0, v) }

func (p *plot) Int() bool { return p.line }

// model is a processor that goes instruction by instruction: each method has its
// cycles go by on the bus and works at once.
type model struct {
	r   api.Regs
	b   *plot
	nmi bool
	ix  int
	q   bool // whether F was reckoned
}

func (m *model) cycle(kind int, addr uint16, n int) {
	for k := 0; k < n; k++ {
		if k > 0 {
			m.b.t++
		}
		if h := m.b.Hold(kind, addr, k); h > 0 {
			m.b.t += uint64(h)
		}
	}
}

func (m *model) rd(addr uint16) uint8 {
	m.cycle(1, addr, 3)
	v := m.b.Read(addr)
	m.b.t++
	return v
}

func (m *model) wr(addr uint16, v uint8) {
	m.cycle(2, addr, 3)
	m.b.Write(addr, v)
	m.b.t++
}

func (m *model) in(port uint16) uint8 {
	m.cycle(3, port, 4)
	v := m.b.In(port)
	m.b.t++
	return v
}

func (m *model) out(port uint16, v uint8) {
	m.cycle(3, port, 4)
	m.b.Out(port, v)
	m.b.t++
}

func (m *model) idle(addr uint16, n int) {
	for ; n > 0; n-- {
		m.cycle(4, addr, 1)
		m.b.t++
	}
}

func (m *model) ack(n int) {
	m.cycle(5, m.r.PC, n)
	m.b.t++
}

func (m *model) count() { m.r.R = m.r.R&128 | (m.r.R+1)&127 }

func (m *model) fetch() uint8 {
	m.cycle(0, m.r.PC, 4)
	v := m.b.Read(m.r.PC)
	m.b.t++
	m.count()
	if !m.r.Halt {
		m.r.PC++
	}
	return v
}

func (m *model) byte() uint8 {
	v := m.rd(m.r.PC)
	m.r.PC++
	return v
}

func (m *model) word() uint16 {
	lo := m.byte()
	return uint16(m.byte())<<8 | uint16(lo)
}

func (m *model) push(w uint16) {
	m.r.SP--
	m.wr(m.r.SP, uint8(w>>8))
	m.r.SP--
	m.wr(m.r.SP, uint8(w))
}

func (m *model) pop() uint16 {
	lo := m.rd(m.r.SP)
	m.r.SP++
	hi := m.rd(m.r.SP)
	m.r.SP++
	return uint16(hi)<<8 | uint16(lo)
}

func (m *model) ir() uint16 { return uint16(m.r.I)<<8 | uint16(m.r.R) }
func (m *model) bc() uint16 { return uint16(m.r.B)<<8 | uint16(m.r.C) }
func (m *model) de() uint16 { return uint16(m.r.D)<<8 | uint16(m.r.E) }

func (m *model) hl() uint16 {
	switch m.ix {
	case 1:
		return m.r.IX
	case 2:
		return m.r.IY
	}
	return uint16(m.r.H)<<8 | uint16(m.r.L)
}

func (m *model) putHL(w uint16) {
	switch m.ix {
	case 1:
		m.r.IX = w
	case 2:
		m.r.IY = w
	default:
		m.r.H, m.r.L = uint8(w>>8), uint8(w)
	}
}

func (m *model) pair(p int) uint16 {
	switch p {
	case 0:
		return m.bc()
	case 1:
		return m.de()
	case 2:
		return m.hl()
	}
	return m.r.SP
}

func (m *model) putPair(p int, w uint16) {
	switch p {
	case 0:
		m.r.B, m.r.C = uint8(w>>8), uint8(w)
	case 1:
		m.r.D, m.r.E = uint8(w>>8), uint8(w)
	case 2:
		m.putHL(w)
	default:
		m.r.SP = w
	}
}

func (m *model) reg(k int) uint8 {
	switch k {
	case 4:
		return uint8(m.hl() >> 8)
	case 5:
		return uint8(m.hl())
	}
	return []uint8{m.r.B, m.r.C, m.r.D, m.r.E, 0, 0, 0, m.r.A}[k]
}

func (m *model) putReg(k int, v uint8) {
	switch k {
	case 0:
		m.r.B = v
	case 1:
		m.r.C = v
	case 2:
		m.r.D = v
	case 3:
		m.r.E = v
	case 4:
		m.putHL(uint16(v)<<8 | m.hl()&255)
	case 5:
		m.putHL(m.hl()&0xff00 | uint16(v))
	case 7:
		m.r.A = v
	}
}

func (m *model) f(f uint8) { m.r.F, m.q = f, true }

func (m *model) af(a, f uint8) {
	m.r.A = a
	m.f(f)
}

func (m *model) both(v, f uint8) uint8 {
	m.f(f)
	return v
}

func (m *model) jump(to uint16) { m.r.PC, m.r.WZ = to, to }

func (m *model) jumpNear(d uint8) {
	m.idle(m.r.PC-1, 5)
	m.jump(m.r.PC + uint16(int16(int8(d))))
}

// step is one instruction.
func (m *model) step() {
	first := m.r.Hold
	m.r.Hold, m.q, m.ix = false, false, 0
	switch {
	case m.nmi && m.r.Pre == 0:
		m.nmi = false
		m.ack(5)
		m.r.IFF1, m.r.Halt = false, false
		m.count()
		m.push(m.r.PC)
		m.jump(102)
	case m.b.line && m.r.IFF1 && !first:
		m.ack(7)
		m.r.IFF1, m.r.IFF2, m.r.Halt = false, false, false
		m.count()
		m.push(m.r.PC)
		to := uint16(56)
		if m.r.IM == 2 {
			at := uint16(m.r.I)<<8 | 255
			lo := m.rd(at)
			to = uint16(m.rd(at+1))<<8 | uint16(lo)
		}
		m.jump(to)
	default:
		code := m.fetch()
		if m.r.Halt {
			break
		}
		m.ix, m.r.Pre = int(m.r.Pre), 0
		switch code {
		case 221:
			m.r.Pre, m.r.Hold = 1, true
			return
		case 253:
			m.r.Pre, m.r.Hold = 2, true
			return
		case 237:
			m.ix = 0
			m.more(m.fetch())
		case 203:
			m.turns()
		default:
			m.plain(code)
		}
	}
	m.r.Q = 0
	if m.q {
		m.r.Q = m.r.F
	}
}

// memory is the place of (hl); waited is how long the distance is reckoned.
func (m *model) memory(waited int) uint16 {
	if m.ix == 0 {
		return m.hl()
	}
	d := m.byte()
	m.idle(m.r.PC-1, waited)
	m.r.WZ = m.hl() + uint16(int16(int8(d)))
	return m.r.WZ
}

func (m *model) plain(code uint8) {
	x, y, z := code>>6, int(code>>3&7), int(code&7)
	switch {
	case x == 0:
		m.first(y, z)
	case code == 118:
		m.r.Halt = true
	case x == 1 && y == 6:
		at := m.memory(5)
		m.ix = 0
		m.wr(at, m.reg(z))
	case x == 1 && z == 6:
		at := m.memory(5)
		m.ix = 0
		m.putReg(y, m.rd(at))
	case x == 1:
		m.putReg(y, m.reg(z))
	case x == 2 && z == 6:
		m.af(alu.Do(y, m.r.A, m.rd(m.memory(5)), m.r.F))
	case x == 2:
		m.af(alu.Do(y, m.r.A, m.reg(z), m.r.F))
	default:
		m.last(y, z)
	}
}

func (m *model) first(y, z int) {
	p, q := y/2, y%2
	switch z {
	case 0:
		switch {
		case y == 1:
			m.r.A, m.r.F, m.r.A2, m.r.F2 = m.r.A2, m.r.F2, m.r.A, m.r.F
		case y == 2:
			m.idle(m.ir(), 1)
			m.r.B--
			if d := m.byte(); m.r.B != 0 {
				m.jumpNear(d)
			}
		case y == 3:
			m.jumpNear(m.byte())
		case y > 3:
			if d := m.byte(); flag.Cond(m.r.F, y-4) {
				m.jumpNear(d)
			}
		}
	case 1:
		if q == 0 {
			m.putPair(p, m.word())
			break
		}
		m.idle(m.ir(), 7)
		m.r.WZ = m.hl() + 1
		w, f := wide.Add(m.hl(), m.pair(p), m.r.F)
		m.putHL(w)
		m.f(f)
	case 2:
		m.far(y)
	case 3:
		m.idle(m.ir(), 2)
		if q == 0 {
			m.putPair(p, m.pair(p)+1)
		} else {
			m.putPair(p, m.pair(p)-1)
		}
	case 4, 5:
		by := alu.Inc
		if z == 5 {
			by = alu.Dec
		}
		if y != 6 {
			m.putReg(y, m.both(by(m.reg(y), m.r.F)))
			break
		}
		at := m.memory(5)
		v := m.rd(at)
		m.idle(at, 1)
		m.wr(at, m.both(by(v, m.r.F)))
	case 6:
		switch {
		case y != 6:
			m.putReg(y, m.byte())
		case m.ix == 0:
			m.wr(m.hl(), m.byte())
		default:
			at := m.memory(0)
			v := m.byte()
			m.idle(m.r.PC-1, 2)
			m.wr(at, v)
		}
	case 7:
		switch y {
		case 4:
			m.af(alu.Daa(m.r.A, m.r.F))
		case 5:
			m.af(alu.Cpl(m.r.A, m.r.F))
		case 6:
			m.f(alu.Scf(m.r.A, m.r.F, m.r.Q))
		case 7:
			m.f(alu.Ccf(m.r.A, m.r.F, m.r.Q))
		default:
			m.af(turn.Acc(y, m.r.A, m.r.F))
		}
	}
}

func (m *model) far(y int) {
	switch y {
	case 0, 2:
		to := m.pair(y / 2)
		m.wr(to, m.r.A)
		m.r.WZ = uint16(m.r.A)<<8 | (to+1)&255
	case 1, 3:
		from := m.pair(y / 2)
		m.r.A = m.rd(from)
		m.r.WZ = from + 1
	case 4:
		m.storePair(2)
	case 5:
		m.loadPair(2)
	case 6:
		to := m.word()
		m.wr(to, m.r.A)
		m.r.WZ = uint16(m.r.A)<<8 | (to+1)&255
	case 7:
		from := m.word()
		m.r.A = m.rd(from)
		m.r.WZ = from + 1
	}
}

func (m *model) storePair(p int) {
	to := m.word()
	m.wr(to, uint8(m.pair(p)))
	m.wr(to+1, uint8(m.pair(p)>>8))
	m.r.WZ = to + 1
}

func (m *model) loadPair(p int) {
	from := m.word()
	lo := m.rd(from)
	m.putPair(p, uint16(m.rd(from+1))<<8|uint16(lo))
	m.r.WZ = from + 1
}

func (m *model) call(to uint16) {
	m.idle(m.r.PC-1, 1)
	m.push(m.r.PC)
	m.r.PC = to
}

func (m *model) last(y, z int) {
	p, q := y/2, y%2
	switch z {
	case 0:
		m.idle(m.ir(), 1)
		if flag.Cond(m.r.F, y) {
			m.jump(m.pop())
		}
	case 1:
		switch {
		case y == 6:
			w := m.pop()
			m.r.A, m.r.F = uint8(w>>8), uint8(w)
		case q == 0:
			m.putPair(p, m.pop())
		case y == 1:
			m.jump(m.pop())
		case y == 3:
			r := &m.r
			r.B, r.C, r.D, r.E, r.H, r.L, r.B2, r.C2, r.D2, r.E2, r.H2, r.L2 = r.B2, r.C2, r.D2, r.E2, r.H2, r.L2, r.B, r.C, r.D, r.E, r.H, r.L
		case y == 5:
			m.r.PC = m.hl()
		default:
			m.idle(m.ir(), 2)
			m.r.SP = m.hl()
		}
	case 2:
		m.r.WZ = m.word()
		if flag.Cond(m.r.F, y) {
			m.r.PC = m.r.WZ
		}
	case 3:
		m.others(y)
	case 4:
		m.r.WZ = m.word()
		if flag.Cond(m.r.F, y) {
			m.call(m.r.WZ)
		}
	case 5:
		switch {
		case y == 1:
			m.r.WZ = m.word()
			m.call(m.r.WZ)
		case y == 6:
			m.idle(m.ir(), 1)
			m.push(uint16(m.r.A)<<8 | uint16(m.r.F))
		default:
			m.idle(m.ir(), 1)
			m.push(m.pair(p))
		}
	case 6:
		m.af(alu.Do(y, m.r.A, m.byte(), m.r.F))
	case 7:
		m.idle(m.ir(), 1)
		m.push(m.r.PC)
		m.jump(uint16(8 * y))
	}
}

func (m *model) others(y int) {
	switch y {
	case 0:
		m.jump(m.word())
	case 2:
		n := m.byte()
		m.out(uint16(m.r.A)<<8|uint16(n), m.r.A)
		m.r.WZ = uint16(m.r.A)<<8 | uint16(n+1)
	case 3:
		port := uint16(m.r.A)<<8 | uint16(m.byte())
		m.r.A = m.in(port)
		m.r.WZ = port + 1
	case 4:
		lo := m.rd(m.r.SP)
		hi := m.rd(m.r.SP + 1)
		m.idle(m.r.SP+1, 1)
		m.wr(m.r.SP+1, uint8(m.hl()>>8))
		m.wr(m.r.SP, uint8(m.hl()))
		m.idle(m.r.SP, 2)
		m.r.WZ = uint16(hi)<<8 | uint16(lo)
		m.putHL(m.r.WZ)
	case 5:
		m.r.D, m.r.E, m.r.H, m.r.L = m.r.H, m.r.L, m.r.D, m.r.E
	case 6:
		m.r.IFF1, m.r.IFF2 = false, false
	case 7:
		m.r.IFF1, m.r.IFF2, m.r.Hold = true, true, true
	}
}

// turns is a code behind 203, with an index or without.
func (m *model) turns() {
	if m.ix == 0 {
		code := m.fetch()
		if z := int(code & 7); z != 6 {
			v := m.turned(code, m.reg(z), m.reg(z))
			if code>>6 != 1 {
				m.putReg(z, v)
			}
			return
		}
		m.turnAt(m.hl(), code)
		return
	}
	d := m.byte()
	code := m.byte()
	m.idle(m.r.PC-1, 2)
	m.r.WZ = m.hl() + uint16(int16(int8(d)))
	v := m.turnAt(m.r.WZ, code)
	m.ix = 0
	if code>>6 != 1 {
		m.putReg(int(code&7), v)
	}
}

func (m *model) turnAt(at uint16, code uint8) uint8 {
	v := m.rd(at)
	m.idle(at, 1)
	v = m.turned(code, v, uint8(m.r.WZ>>8))
	if code>>6 != 1 {
		m.wr(at, v)
	}
	return v
}

func (m *model) turned(code, v, yx uint8) uint8 {
	y := int(code >> 3 & 7)
	switch code >> 6 {
	case 0:
		return m.both(turn.Do(y, v, m.r.F))
	case 1:
		m.f(turn.Bit(y, v, yx, m.r.F))
		return v
	case 2:
		return turn.Res(y, v)
	}
	return turn.Set(y, v)
}

func (m *model) more(code uint8) {
	y, z := int(code>>3&7), int(code&7)
	p, q := y/2, y%2
	if code >= 0xa0 && code < 0xc0 && z < 4 {
		m.block(y, z)
		return
	}
	if code>>6 != 1 {
		return
	}
	switch z {
	case 0:
		m.r.WZ = m.bc() + 1
		v := m.in(m.bc())
		m.putReg(y, v)
		m.f(flag.OfP(v) | m.r.F&1)
	case 1:
		m.r.WZ = m.bc() + 1
		m.out(m.bc(), m.reg(y))
	case 2:
		m.idle(m.ir(), 7)
		m.r.WZ = m.hl() + 1
		by := wide.Sbc
		if q == 1 {
			by = wide.Adc
		}
		w, f := by(m.hl(), m.pair(p), m.r.F)
		m.putHL(w)
		m.f(f)
	case 3:
		if q == 0 {
			m.storePair(p)
		} else {
			m.loadPair(p)
		}
	case 4:
		m.af(alu.Sub(0, m.r.A, false))
	case 5:
		m.jump(m.pop())
		m.r.IFF1 = m.r.IFF2
	case 6:
		m.r.IM = []uint8{0, 0, 1, 2}[y%4]
	case 7:
		m.special(y)
	}
}

func (m *model) special(y int) {
	if y < 4 {
		m.idle(m.ir(), 1)
	}
	switch y {
	case 0:
		m.r.I = m.r.A
	case 1:
		m.r.R = m.r.A
	case 2, 3:
		v := m.r.I
		if y == 3 {
			v = m.r.R
		}
		f := flag.Of(v) | m.r.F&1
		if m.r.IFF2 {
			f |= 4
		}
		m.af(v, f)
	case 4, 5:
		at := m.hl()
		v := m.rd(at)
		m.idle(at, 4)
		a, n, f := turn.Rrd(m.r.A, v, m.r.F)
		if y == 5 {
			a, n, f = turn.Rld(m.r.A, v, m.r.F)
		}
		m.af(a, f)
		m.wr(at, n)
		m.r.WZ = at + 1
	}
}

func (m *model) block(y, z int) {
	way := uint16(1)
	if y%2 == 1 {
		way = 0xffff
	}
	hl, de, bc := m.hl(), m.de(), m.bc()
	var v uint8
	var at uint16 // where is waited, if it goes on
	on := true
	switch z {
	case 0:
		v = m.rd(hl)
		m.wr(de, v)
		m.idle(de, 2)
		m.putPair(1, de+way)
		m.putPair(0, bc-1)
		m.f(bulk.Copy(m.r.A, v, bc-1, m.r.F))
		at, on = de, bc != 1
	case 1:
		v = m.rd(hl)
		m.idle(hl, 5)
		m.putPair(0, bc-1)
		m.f(bulk.Find(m.r.A, v, bc-1, m.r.F))
		m.r.WZ += way
		at, on = hl, bc != 1 && v != m.r.A
	case 2:
		m.idle(m.ir(), 1)
		v = m.in(bc)
		m.wr(hl, v)
		m.r.WZ = bc + way
		m.r.B--
		m.f(bulk.Port(v, m.r.C+uint8(way), m.r.B))
		at, on = hl, m.r.B != 0
	case 3:
		m.idle(m.ir(), 1)
		v = m.rd(hl)
		m.r.B--
		m.out(m.bc(), v)
		m.r.WZ = m.bc() + way
		m.f(bulk.Port(v, uint8(hl+way), m.r.B))
		at, on = m.bc(), m.r.B != 0
	}
	m.putHL(hl + way)
	if y < 6 || !on {
		return
	}
	m.idle(at, 5)
	m.r.PC -= 2
	m.r.WZ = m.r.PC + 1
	if z < 2 {
		m.f(bulk.Again(m.r.F, m.r.PC))
	} else {
		m.f(bulk.PortAgain(m.r.F, v, m.r.B, m.r.PC))
	}
}
