package cpu

import (
	"slices"
	"testing"

	"squeal/api"
	"squeal/micro"
)

// chance is a row of numbers that hang on where it began alone.
type chance uint64

func (x *chance) next() uint64 {
	*x ^= *x << 13
	*x ^= *x >> 7
	*x ^= *x << 17
	return uint64(*x) >> 20
}

func (x *chance) byte() uint8    { return uint8(x.next()) }
func (x *chance) word() uint16   { return uint16(x.next()) }
func (x *chance) one(n int) bool { return x.next()%uint64(n) == 0 }

func (x *chance) regs() api.Regs {
	r := api.Regs{
		A: x.byte(), F: x.byte(), B: x.byte(), C: x.byte(), D: x.byte(), E: x.byte(), H: x.byte(), L: x.byte(),
		A2: x.byte(), F2: x.byte(), B2: x.byte(), C2: x.byte(), D2: x.byte(), E2: x.byte(), H2: x.byte(), L2: x.byte(),
		I: x.byte(), R: x.byte(), IX: x.word(), IY: x.word(), SP: x.word(), PC: x.word(), WZ: x.word(),
		IFF1: x.one(2), IFF2: x.one(2), Hold: x.one(2), IM: x.byte() % 3,
	}
	if x.one(2) {
		r.Q = r.F
	}
	// Counters at their ends are met too seldom.
	if x.one(4) {
		r.B = 1
	}
	if x.one(4) {
		r.B, r.C = 0, 1
	}
	return r
}

func (x *chance) fill(m *[65536]uint8) {
	for i := range m {
		m[i] = x.byte()
	}
}

// lay puts bytes at a place.
func lay(m *[65536]uint8, at uint16, l ...uint8) {
	for i, v := range l {
		m[at+uint16(i)] = v
	}
}

// pace has a processor and a model do one instruction, on busses that are the
// same, and holds them against each other.
func pace(t *testing.T, c *CPU, p *plot, m *model) {
	t.Helper()
	from := m.r
	start := p.t
	p.l, m.b.l = p.l[:0], m.b.l[:0]
	m.step()
	for n := 0; n == 0 || !c.Done(); n++ {
		c.Tick(p)
		p.t++
		if n > 1000 {
			t.Fatalf("from %+v: no end", from)
		}
	}
	if c.R != m.r {
		t.Fatalf("from %+v (%v):\n got %+v\nwant %+v", from, m.b.m[from.PC:min(int(from.PC)+4, 65536)], c.R, m.r)
	}
	if p.t != m.b.t {
		t.Fatalf("from %+v: %d T-states, not %d", from, p.t-start, m.b.t-start)
	}
	if !slices.Equal(p.l, m.b.l) {
		t.Fatalf("from %+v:\n got %v\nwant %v", from, p.l, m.b.l)
	}
}

// codes calls f with the bytes of each code of all sets, but for plain prefixes.
func codes(d uint8, f func(l ...uint8)) {
	for k := range 256 {
		code := uint8(k)
		if !slices.Contains([]uint8{203, 221, 237, 253}, code) {
			f(code)
			f(221, code)
			f(253, code)
		}
		f(203, code)
		f(237, code)
		f(221, 203, d, code)
		f(253, 203, d, code)
	}
}

// Each code, from registers and memory that are put together by chance, with the
// instructions that stand behind it then, on a bus that holds and on one that
// doesn't.
func TestEachCode(t *testing.T) {
	x := chance(88172645463325252)
	p, b := &plot{}, &plot{}
	for round := range 24 {
		x.fill(&p.m)
		b.m = p.m
		p.slow, b.slow = round%2 == 1, round%2 == 1
		codes(x.byte(), func(l ...uint8) {
			r := x.regs()
			lay(&p.m, r.PC, l...)
			lay(&b.m, r.PC, l...)
			c, m := New(r), &model{r: r, b: b}
			for range 3 {
				pace(t, c, p, m)
			}
		})
	}
}

// Long rows of instructions by chance, with interrupts of both kinds.
func TestRows(t *testing.T) {
	x := chance(362436069)
	p, b := &plot{}, &plot{}
	for round := range 60 {
		x.fill(&p.m)
		// Prefixes, ei, and the interrupts' modes are met too seldom.
		for range 6000 {
			p.m[x.word()] = []uint8{221, 253, 203, 237, 251, 118}[x.byte()%6]
			lay(&p.m, x.word(), 237, []uint8{70, 86, 94}[x.byte()%3])
		}
		b.m = p.m
		p.slow, b.slow = round%2 == 1, round%2 == 1
		r := x.regs()
		c, m := New(r), &model{r: r, b: b}
		for range 2000 {
			if x.one(40) {
				c.Nmi()
				m.nmi = true
			}
			p.line = x.one(10)
			b.line = p.line
			pace(t, c, p, m)
		}
	}
}

// 12.1

// begun is registers that tell from where a thing came.
func begun() api.Regs {
	return api.Regs{
		A: 0x12, F: 0, B: 0x34, C: 0x56, D: 0x78, E: 0x9a, H: 0xbc, L: 0xde,
		A2: 0xa2, F2: 0xf2, I: 0x11, R: 0x7f, IX: 0x4000, IY: 0x5000, SP: 0x8000, PC: 0x0100, WZ: 0xaaaa,
	}
}

// flat is a bus with bytes at 0x0100, and 0x2211 where begun's SP is.
func flat(l ...uint8) *Flat {
	f := &Flat{}
	lay(&f.M, 0x0100, l...)
	lay(&f.M, 0x8000, 0x11, 0x22)
	return f
}

// steps is the T-states of n instructions.
func steps(f *Flat, c *CPU, n int) (all []int) {
	for range n {
		all = append(all, f.Step(c))
	}
	return all
}

func TestNew(t *testing.T) {
	x := chance(1)
	for range 100 {
		r := x.regs()
		r.Pre = x.byte()
		r.Halt = x.one(2)
		c, d := New(r), New(r)
		if c == nil || c == d || c.R != r || !c.Done() {
			t.Fatalf("New(%+v): %+v, %v", r, c.R, c.Done())
		}
		(&Flat{}).Step(c)
		if d.R != r {
			t.Fatal("two processors share registers")
		}
	}
}

func TestNothing(t *testing.T) {
	var none *CPU
	f := flat(62, 5)
	none.Tick(f)
	none.Tick(nil)
	none.Nmi()
	if !none.Done() || none.Copy() != nil {
		t.Error("a nil processor isn't done, or has a copy")
	}
	c := New(begun())
	c.Tick(nil)
	if c.R != begun() || !c.Done() {
		t.Error("a T-state without a bus")
	}
	for n := range 6 {
		c.Tick(f)
		before := c.R
		c.Tick(nil)
		if c.R != before || c.Done() {
			t.Error("a T-state without a bus, behind", n)
		}
	}
	c.Tick(f)
	if !c.Done() || c.R.A != 5 {
		t.Error("T-states without a bus count")
	}
}

// What a bus without memory answers isn't told; but nothing panics.
func TestNilFlat(t *testing.T) {
	var none *Flat
	c := New(begun())
	for range 100 {
		c.Tick(none)
	}
	if none.Int() || none.Hold(0, 0, 0) != 0 {
		t.Error("a nil bus asks or holds")
	}
	none.Write(1, 1)
	none.Out(1, 1)
	none.Read(1)
	none.In(1)
}

func TestDone(t *testing.T) {
	f := flat(62, 5, 221, 33, 7, 8)
	c := New(begun())
	for n, done := range []bool{
		false, false, false, false, false, false, true,
		false, false, false, true,
		false, false, false, false, false, false, false, false, false, true,
	} {
		c.Tick(f)
		if c.Done() != done {
			t.Error("Done behind", n+1, "T-states is", c.Done())
		}
	}
	if c.R.A != 5 || c.R.IX != 0x0807 {
		t.Errorf("%+v", c.R)
	}
}

// shut is a bus that holds so many T-states ahead of one T-state of a kind.
type shut struct {
	plot
	kind, k, n int
}

func (s *shut) Hold(kind int, addr uint16, k int) int {
	s.plot.Hold(kind, addr, k)
	if kind == s.kind && k == s.k {
		return s.n
	}
	return 0
}

// Where a processor is held: out (254),a, ld (hl),a, djnz and an NMI.
func TestHold(t *testing.T) {
	l := []struct {
		kind, k, n int
		more       []int // of each of the four
	}{
		{Fetch, 0, 5, []int{5, 5, 5, 0}}, {Fetch, 1, 1, []int{1, 1, 1, 0}}, {Fetch, 3, 2, []int{2, 2, 2, 0}}, {Fetch, 4, 2, []int{0, 0, 0, 0}},
		{Read, 0, 3, []int{3, 0, 3, 0}}, {Read, 2, 3, []int{3, 0, 3, 0}}, {Read, 3, 3, []int{0, 0, 0, 0}},
		{Write, 1, 4, []int{0, 4, 0, 8}}, {Write, 2, 1, []int{0, 1, 0, 2}}, {Write, 3, 1, []int{0, 0, 0, 0}},
		{Port, 0, 6, []int{6, 0, 0, 0}}, {Port, 3, 6, []int{6, 0, 0, 0}}, {Port, 4, 6, []int{0, 0, 0, 0}},
		{Idle, 0, 2, []int{0, 0, 12, 0}}, {Idle, 1, 2, []int{0, 0, 0, 0}},
		{Ack, 0, 2, []int{0, 0, 0, 2}}, {Ack, 4, 2, []int{0, 0, 0, 2}}, {Ack, 5, 2, []int{0, 0, 0, 0}},
		{Fetch, 0, 1000, []int{1000, 1000, 1000, 0}}, {Fetch, 0, -1, []int{0, 0, 0, 0}}, {Idle, 0, -1000, []int{0, 0, 0, 0}},
	}
	for _, e := range l {
		s := &shut{kind: e.kind, k: e.k, n: e.n}
		lay(&s.m, 0x0100, 211, 254, 119, 16, 5)
		c := New(begun())
		for i, plain := range []int{11, 7, 13, 11} {
			if i == 3 {
				c.Nmi()
			}
			n := 0
			for n == 0 || !c.Done() {
				c.Tick(s)
				n++
			}
			if n != plain+e.more[i] {
				t.Errorf("%v: instruction %d takes %d", e, i, n)
			}
		}
	}
}

// All that a bus is asked and told by out (254),a, T-state by T-state.
func TestEvents(t *testing.T) {
	p := &plot{}
	lay(&p.m, 0x0100, 211, 254)
	c := New(begun())
	for range 11 {
		c.Tick(p)
		p.t++
	}
	want := []event{
		{0, "hold", 0, 0x0100, 0, 0}, {1, "hold", 0, 0x0100, 1, 0}, {2, "hold", 0, 0x0100, 2, 0}, {3, "hold", 0, 0x0100, 3, 0},
		{3, "read", 0, 0x0100, 0, 211},
		{4, "hold", 1, 0x0101, 0, 0}, {5, "hold", 1, 0x0101, 1, 0}, {6, "hold", 1, 0x0101, 2, 0},
		{6, "read", 0, 0x0101, 0, 254},
		{7, "hold", 3, 0x12fe, 0, 0}, {8, "hold", 3, 0x12fe, 1, 0}, {9, "hold", 3, 0x12fe, 2, 0}, {10, "hold", 3, 0x12fe, 3, 0},
		{10, "out", 0, 0x12fe, 0, 0x12},
	}
	if !c.Done() || !slices.Equal(p.l, want) {
		t.Errorf("%v\nnot %v", p.l, want)
	}
}

func TestNmi(t *testing.T) {
	f := flat()
	r := begun()
	r.IFF1, r.IFF2, r.Halt, r.F = true, true, true, 0xff
	c := New(r)
	c.Nmi()
	c.Nmi()
	if c.R != r || !c.Done() {
		t.Error("an NMI is taken ahead of a T-state")
	}
	f.Line = true // an NMI is taken ahead of it
	want := r
	want.IFF1, want.Halt, want.R, want.SP, want.PC, want.WZ = false, false, 0x00, 0x7ffe, 102, 102
	if n := f.Step(c); n != 11 || c.R != want || f.M[0x7fff] != 0x01 || f.M[0x7ffe] != 0x00 {
		t.Errorf("an NMI: %d, %+v, not %+v; %x %x", n, c.R, want, f.M[0x7fff], f.M[0x7ffe])
	}
	if n := f.Step(c); n != 4 || c.R.PC != 103 {
		t.Errorf("an NMI is taken twice: %d, %+v", n, c.R)
	}
}

func TestNmiWaits(t *testing.T) {
	f := flat(221, 221, 253, 62, 5)
	c := New(begun())
	f.Step(c)
	c.Nmi()
	if n := steps(f, c, 3); !slices.Equal(n, []int{4, 4, 7}) || c.R.A != 5 {
		t.Errorf("an NMI is taken behind a prefix: %v, %+v", n, c.R)
	}
	if n := f.Step(c); n != 11 || c.R.PC != 102 {
		t.Errorf("an NMI is lost: %d, %+v", n, c.R)
	}
	// Hold keeps interrupts off, not NMIs.
	r := begun()
	r.Hold = true
	c = New(r)
	c.Nmi()
	if n := f.Step(c); n != 11 || c.R.PC != 102 || c.R.Hold {
		t.Errorf("Hold keeps an NMI off, or stays: %d, %+v", n, c.R)
	}
	// One that comes within the taking of another one is one more.
	for at := 1; at < 11; at++ {
		c = New(begun())
		c.Nmi()
		for range at {
			c.Tick(f)
		}
		c.Nmi()
		f.Step(c)
		if n := steps(f, c, 2); !slices.Equal(n, []int{11, 4}) {
			t.Errorf("an NMI behind %d T-states of another one: %v", at, n)
		}
	}
	// One that comes within an instruction waits for its end.
	for at := 1; at < 7; at++ {
		f = flat(62, 5)
		c = New(begun())
		for range at {
			c.Tick(f)
		}
		c.Nmi()
		if n := steps(f, c, 3); !slices.Equal(n, []int{7 - at, 11, 4}) || c.R.A != 5 || f.M[0x7ffe] != 2 {
			t.Errorf("an NMI behind %d T-states: %v, %+v", at, n, c.R)
		}
	}
}

func TestInterrupt(t *testing.T) {
	for _, e := range []struct {
		im, i    uint8
		n        int
		vector   uint16
		low, top uint8
		to       uint16
	}{
		{0, 0x11, 13, 0, 0, 0, 56},
		{1, 0x11, 13, 0, 0, 0, 56},
		{2, 0x11, 19, 0x11ff, 0x34, 0x12, 0x1234},
		{2, 0x00, 19, 0x00ff, 0xff, 0x80, 0x80ff},
		{2, 0xff, 19, 0xffff, 0x21, 0x43, 0x4321},
		{3, 0x11, 13, 0x11ff, 0x34, 0x12, 56},
		{255, 0x11, 13, 0x11ff, 0x34, 0x12, 56},
	} {
		f := flat()
		lay(&f.M, e.vector, e.low, e.top)
		r := begun()
		r.IM, r.I, r.IFF1, r.IFF2, r.Halt, r.R, r.Q, r.F = e.im, e.i, true, true, true, 0xff, 0x77, 0x77
		want := r
		want.IFF1, want.IFF2, want.Halt, want.R, want.Q = false, false, false, 0x80, 0
		want.SP, want.PC, want.WZ = 0x7ffe, e.to, e.to
		f.Line = true
		c := New(r)
		if n := f.Step(c); n != e.n || c.R != want || f.M[0x7fff] != 0x01 || f.M[0x7ffe] != 0x00 {
			t.Errorf("an interrupt %+v: %d\n got %+v\nwant %+v", e, n, c.R, want)
		}
		if n := f.Step(c); n == e.n {
			t.Errorf("an interrupt %+v is taken twice", e)
		}
	}
}

func TestNoInterrupt(t *testing.T) {
	r := begun()
	r.IFF1, r.IFF2 = true, true
	// Without Line.
	f := flat()
	c := New(r)
	if n := f.Step(c); n != 4 || c.R.PC != 0x0101 {
		t.Errorf("an interrupt that isn't asked for: %d, %+v", n, c.R)
	}
	// Without IFF1, whatever IFF2 is.
	f.Line = true
	r.IFF1 = false
	c = New(r)
	if n := f.Step(c); n != 4 || c.R.PC != 0x0101 {
		t.Errorf("an interrupt without IFF1: %d, %+v", n, c.R)
	}
	// With IFF1 alone.
	r.IFF1, r.IFF2 = true, false
	c = New(r)
	if n := f.Step(c); n != 13 || c.R.PC != 56 {
		t.Errorf("an interrupt without IFF2: %d, %+v", n, c.R)
	}
	// Hold keeps it off for one instruction.
	r.Hold = true
	c = New(r)
	if n := steps(f, c, 2); !slices.Equal(n, []int{4, 13}) {
		t.Errorf("an interrupt with Hold: %v, %+v", n, c.R)
	}
	// Behind ei, and behind prefixes.
	f = flat(251, 251, 0, 0)
	f.Line = true
	c = New(begun())
	if n := steps(f, c, 4); !slices.Equal(n, []int{4, 4, 4, 13}) || f.M[0x7ffe] != 3 {
		t.Errorf("an interrupt behind ei: %v, %+v", n, c.R)
	}
	f = flat(221, 253, 33, 1, 2, 0)
	f.Line = true
	r.Hold = true
	c = New(r)
	if n := steps(f, c, 4); !slices.Equal(n, []int{4, 4, 10, 13}) || c.R.IY != 0x0201 {
		t.Errorf("an interrupt behind prefixes: %v, %+v", n, c.R)
	}
	// What is asked for within an instruction, and not at its end, is nothing.
	f = flat(62, 5)
	r.Hold = false
	c = New(r)
	for n := range 7 {
		f.Line = n > 0
		c.Tick(f)
	}
	f.Line = false
	if n := f.Step(c); n != 4 || c.R.PC != 0x0103 {
		t.Errorf("an interrupt that was asked for: %d, %+v", n, c.R)
	}
}

func TestPrefix(t *testing.T) {
	f := flat(221, 253, 221, 237, 0x6a)
	r := begun()
	r.Q, r.F = 0x28, 0x28
	c := New(r)
	for i, pre := range []uint8{1, 2, 1} {
		n := f.Step(c)
		want := r
		want.PC, want.R, want.Pre, want.Hold = 0x0101+uint16(i), []uint8{0, 1, 2}[i], pre, true
		if n != 4 || c.R != want {
			t.Errorf("prefix %d: %d, %+v, not %+v", i, n, c.R, want)
		}
	}
	// adc hl,hl behind 237: no index.
	if n := f.Step(c); n != 15 || c.R.H != 0x79 || c.R.L != 0xbc || c.R.IX != 0x4000 || c.R.Pre != 0 || c.R.Hold {
		t.Errorf("adc hl,hl: %d, %+v", n, c.R)
	}
	// What is no prefix is none.
	r.Pre = 3
	c = New(r)
	f = flat(33, 1, 2)
	if n := f.Step(c); n != 10 || c.R.H != 2 || c.R.L != 1 || c.R.Pre != 0 {
		t.Errorf("Pre 3: %d, %+v", n, c.R)
	}
}

// How R counts: once a fetch, also behind 203 and 237, but not behind an index's
// 203, where the code is read.
func TestCounts(t *testing.T) {
	for _, e := range []struct {
		l    []uint8
		n    int // instructions
		from uint8
		to   uint8
	}{
		{[]uint8{0}, 1, 0x7f, 0x00}, {[]uint8{0}, 1, 0xff, 0x80}, {[]uint8{0}, 1, 0x80, 0x81},
		{[]uint8{62, 5}, 1, 5, 6}, {[]uint8{203, 0}, 1, 5, 7}, {[]uint8{237, 0}, 1, 5, 7},
		{[]uint8{221, 0}, 2, 5, 7}, {[]uint8{221, 203, 1, 6}, 2, 5, 7}, {[]uint8{118, 0, 0}, 3, 5, 8},
		{[]uint8{221, 237, 0}, 2, 5, 8}, {[]uint8{237, 0xb0}, 2, 5, 9},
	} {
		r := begun()
		r.R = e.from
		c := New(r)
		steps(flat(e.l...), c, e.n)
		if c.R.R != e.to {
			t.Errorf("%v: R is %x, not %x", e.l, c.R.R, e.to)
		}
	}
}

func TestHalt(t *testing.T) {
	f := flat(118, 62, 5)
	c := New(begun())
	if n := steps(f, c, 3); !slices.Equal(n, []int{4, 4, 4}) || !c.R.Halt || c.R.PC != 0x0101 || c.R.A != 0x12 {
		t.Errorf("halt: %v, %+v", n, c.R)
	}
	c.R.IFF1 = true
	f.Line = true
	if n := f.Step(c); n != 13 || c.R.Halt || f.M[0x7ffe] != 1 || f.M[0x7fff] != 1 {
		t.Errorf("an interrupt of halt: %d, %+v", n, c.R)
	}
	// It goes on fetching where it is.
	p := &plot{}
	lay(&p.m, 0x0100, 62)
	r := begun()
	r.Halt, r.F, r.Q = true, 1, 1
	c = New(r)
	for range 4 {
		c.Tick(p)
	}
	want := r
	want.R, want.Q = 0, 0
	if c.R != want || len(p.l) != 5 || p.l[4].addr != 0x0100 || p.l[4].what != "read" {
		t.Errorf("halted: %+v, not %+v; %v", c.R, want, p.l)
	}
}

// A copy of each T-state goes on as the first one does, after that one went on.
func TestCopy(t *testing.T) {
	x := chance(5)
	m := &[65536]uint8{}
	x.fill(m)
	codes(7, func(l ...uint8) {
		r := x.regs()
		r.Hold = false
		start := *m
		lay(&start, r.PC, l...)
		p := &plot{m: start, slow: true, line: x.one(2)}
		c := New(r)
		if x.one(4) {
			c.Nmi()
		}
		at := int(x.byte() % 24)
		for range at {
			c.Tick(p)
			p.t++
		}
		d := c.Copy()
		if d == c || d.R != c.R || d.Done() != c.Done() {
			t.Fatal("a copy is another one")
		}
		q := *p
		p.l, q.l = nil, nil
		for range 40 {
			c.Tick(p)
			p.t++
		}
		for range 40 {
			d.Tick(&q)
			q.t++
		}
		if c.R != d.R || c.Done() != d.Done() || !slices.Equal(p.l, q.l) {
			t.Fatalf("%v, copied behind %d T-states:\n got %+v\nwant %+v", l, at, d.R, c.R)
		}
	})
}

// Another processor with the same registers goes on as this one, wherever it is
// between two instructions.
func TestAllIsInRegs(t *testing.T) {
	x := chance(6)
	p, b := &plot{slow: true}, &plot{slow: true}
	x.fill(&p.m)
	b.m = p.m
	c := New(x.regs())
	for range 20000 {
		m := &model{r: c.R, b: b}
		p.line = x.one(8)
		b.line = p.line
		c = New(c.R)
		pace(t, c, p, m)
	}
}

// The pointer and what stands behind it: what WZ is behind one instruction, with
// begun's registers, F as told, and 0x2211 at SP.
func TestPointer(t *testing.T) {
	for _, e := range []struct {
		l  []uint8
		f  uint8
		wz uint16
	}{
		{[]uint8{0}, 0, 0xaaaa}, {[]uint8{62, 5}, 0, 0xaaaa}, {[]uint8{126}, 0, 0xaaaa}, {[]uint8{33, 1, 2}, 0, 0xaaaa},
		{[]uint8{0xc5}, 0, 0xaaaa}, {[]uint8{0xe1}, 0, 0xaaaa}, {[]uint8{0xeb}, 0, 0xaaaa}, {[]uint8{0x23}, 0, 0xaaaa},
		{[]uint8{0xcb, 0x46}, 0, 0xaaaa}, {[]uint8{0xed, 0x57}, 0, 0xaaaa}, {[]uint8{0xe9}, 0, 0xaaaa}, {[]uint8{0xf9}, 0, 0xaaaa},
		{[]uint8{0x0a}, 0, 0x3457}, {[]uint8{0x1a}, 0, 0x789b}, {[]uint8{0x02}, 0, 0x1257}, {[]uint8{0x12}, 0, 0x129b},
		{[]uint8{0x32, 0xfe, 0x56}, 0, 0x12ff}, {[]uint8{0x32, 0xff, 0x56}, 0, 0x1200}, {[]uint8{0x3a, 0xff, 0x56}, 0, 0x5700},
		{[]uint8{0xd3, 0xfe}, 0, 0x12ff}, {[]uint8{0xd3, 0xff}, 0, 0x1200}, {[]uint8{0xdb, 0xfe}, 0, 0x12ff}, {[]uint8{0xdb, 0xff}, 0, 0x1300},
		{[]uint8{0x22, 0xff, 0x56}, 0, 0x5700}, {[]uint8{0x2a, 0xff, 0x56}, 0, 0x5700}, {[]uint8{0x2a, 0xff, 0xff}, 0, 0},
		{[]uint8{0xed, 0x43, 0, 0x60}, 0, 0x6001}, {[]uint8{0xed, 0x4b, 0, 0x60}, 0, 0x6001}, {[]uint8{0xed, 0x73, 0, 0x60}, 0, 0x6001},
		{[]uint8{0xed, 0x7b, 0, 0x60}, 0, 0x6001}, {[]uint8{0xdd, 0x22, 0, 0x60}, 0, 0x6001}, {[]uint8{0xfd, 0x2a, 0, 0x60}, 0, 0x6001},
		{[]uint8{0x09}, 0, 0xbcdf}, {[]uint8{0x29}, 0, 0xbcdf}, {[]uint8{0xdd, 0x29}, 0, 0x4001}, {[]uint8{0xfd, 0x39}, 0, 0x5001},
		{[]uint8{0xed, 0x42}, 0, 0xbcdf}, {[]uint8{0xed, 0x4a}, 0, 0xbcdf},
		{[]uint8{0x18, 5}, 0, 0x0107}, {[]uint8{0x18, 0x80}, 0, 0x0082}, {[]uint8{0x10, 5}, 0, 0x0107},
		{[]uint8{0x20, 5}, 0, 0x0107}, {[]uint8{0x20, 5}, 0x40, 0xaaaa}, {[]uint8{0x28, 5}, 0x40, 0x0107}, {[]uint8{0x28, 5}, 0, 0xaaaa},
		{[]uint8{0x30, 5}, 1, 0xaaaa}, {[]uint8{0x38, 5}, 1, 0x0107},
		{[]uint8{0xc7}, 0, 0}, {[]uint8{0xdf}, 0, 24}, {[]uint8{0xff}, 0, 56},
		{[]uint8{0xc9}, 0, 0x2211}, {[]uint8{0xc0}, 0, 0x2211}, {[]uint8{0xc0}, 0x40, 0xaaaa}, {[]uint8{0xed, 0x45}, 0, 0x2211}, {[]uint8{0xed, 0x4d}, 0, 0x2211},
		{[]uint8{0xcd, 1, 2}, 0, 0x0201}, {[]uint8{0xc4, 1, 2}, 0, 0x0201}, {[]uint8{0xc4, 1, 2}, 0x40, 0x0201},
		{[]uint8{0xc3, 1, 2}, 0, 0x0201}, {[]uint8{0xda, 1, 2}, 0, 0x0201}, {[]uint8{0xda, 1, 2}, 1, 0x0201},
		{[]uint8{0xe3}, 0, 0x2211}, {[]uint8{0xdd, 0xe3}, 0, 0x2211},
		{[]uint8{0xdd, 0x7e, 5}, 0, 0x4005}, {[]uint8{0xdd, 0x70, 0xff}, 0, 0x3fff}, {[]uint8{0xfd, 0x34, 0x80}, 0, 0x4f80},
		{[]uint8{0xdd, 0x36, 0x7f, 1}, 0, 0x407f}, {[]uint8{0xfd, 0xcb, 5, 0x46}, 0, 0x5005}, {[]uint8{0xdd, 0xcb, 0xfb, 0}, 0, 0x3ffb},
		{[]uint8{0xed, 0x40}, 0, 0x3457}, {[]uint8{0xed, 0x78}, 0, 0x3457}, {[]uint8{0xed, 0x79}, 0, 0x3457}, {[]uint8{0xed, 0x71}, 0, 0x3457},
		{[]uint8{0xed, 0x67}, 0, 0xbcdf}, {[]uint8{0xed, 0x6f}, 0, 0xbcdf},
		{[]uint8{0xed, 0xa0}, 0, 0xaaaa}, {[]uint8{0xed, 0xa8}, 0, 0xaaaa}, {[]uint8{0xed, 0xa1}, 0, 0xaaab}, {[]uint8{0xed, 0xa9}, 0, 0xaaa9},
		{[]uint8{0xed, 0xa2}, 0, 0x3457}, {[]uint8{0xed, 0xaa}, 0, 0x3455}, {[]uint8{0xed, 0xa3}, 0, 0x3357}, {[]uint8{0xed, 0xab}, 0, 0x3355},
		{[]uint8{0xed, 0xb0}, 0, 0x0101}, {[]uint8{0xed, 0xb8}, 0, 0x0101}, {[]uint8{0xed, 0xb1}, 0, 0x0101}, {[]uint8{0xed, 0xb9}, 0, 0x0101},
		{[]uint8{0xed, 0xb2}, 0, 0x0101}, {[]uint8{0xed, 0xba}, 0, 0x0101}, {[]uint8{0xed, 0xb3}, 0, 0x0101}, {[]uint8{0xed, 0xbb}, 0, 0x0101},
	} {
		r := begun()
		r.F = e.f
		c, f := New(r), flat(e.l...)
		for ok := true; ok; ok = c.R.Pre != 0 {
			f.Step(c)
		}
		if c.R.WZ != e.wz {
			t.Errorf("%x with F %x: WZ is %x, not %x", e.l, e.f, c.R.WZ, e.wz)
		}
	}
}

// The last of a block's operations: WZ, and where it goes on.
func TestBlockEnds(t *testing.T) {
	for _, e := range []struct {
		code   uint8
		b, c   uint8
		at     uint8 // what stands at HL
		n      int
		pc, wz uint16
	}{
		{0xb0, 0, 2, 0, 21, 0x0100, 0x0101}, {0xb0, 0, 1, 0, 16, 0x0102, 0xaaaa}, {0xb0, 0, 0, 0, 21, 0x0100, 0x0101}, {0xb0, 1, 0, 0, 21, 0x0100, 0x0101},
		{0xb8, 0, 2, 0, 21, 0x0100, 0x0101}, {0xb8, 0, 1, 0, 16, 0x0102, 0xaaaa}, {0xa0, 0, 2, 0, 16, 0x0102, 0xaaaa},
		{0xb1, 0, 2, 0, 21, 0x0100, 0x0101}, {0xb1, 0, 1, 0, 16, 0x0102, 0xaaab}, {0xb1, 0, 2, 0x12, 16, 0x0102, 0xaaab},
		{0xb9, 0, 2, 0, 21, 0x0100, 0x0101}, {0xb9, 0, 1, 0, 16, 0x0102, 0xaaa9}, {0xb9, 0, 2, 0x12, 16, 0x0102, 0xaaa9}, {0xa1, 0, 2, 0, 16, 0x0102, 0xaaab},
		{0xb2, 2, 0, 0, 21, 0x0100, 0x0101}, {0xb2, 1, 0, 0, 16, 0x0102, 0x0101}, {0xb2, 0, 0, 0, 21, 0x0100, 0x0101}, {0xa2, 2, 0, 0, 16, 0x0102, 0x0201},
		{0xba, 2, 0, 0, 21, 0x0100, 0x0101}, {0xba, 1, 5, 0, 16, 0x0102, 0x0104},
		{0xb3, 2, 0, 0, 21, 0x0100, 0x0101}, {0xb3, 1, 5, 0, 16, 0x0102, 0x0006}, {0xbb, 2, 0, 0, 21, 0x0100, 0x0101}, {0xbb, 1, 5, 0, 16, 0x0102, 0x0004},
	} {
		r := begun()
		r.B, r.C = e.b, e.c
		c, f := New(r), flat(237, e.code)
		f.M[0xbcde] = e.at
		if n := f.Step(c); n != e.n || c.R.PC != e.pc || c.R.WZ != e.wz {
			t.Errorf("%+v: %d, PC %x, WZ %x", e, n, c.R.PC, c.R.WZ)
		}
	}
}

// Flags that the chapter tells by itself, and Q.
func TestFlags(t *testing.T) {
	for _, e := range []struct {
		l    []uint8
		set  func(r *api.Regs, f *Flat)
		f, q uint8
	}{
		// Bit: Y and X of WZ, of the place, and of the register.
		{[]uint8{0xcb, 0x46}, func(r *api.Regs, f *Flat) { r.WZ = 0x28ff }, 0x7c, 0x7c},
		{[]uint8{0xcb, 0x46}, func(r *api.Regs, f *Flat) { r.WZ, f.M[0xbcde] = 0xd7ff, 0xff }, 0x10, 0x10},
		{[]uint8{0xcb, 0x7e}, func(r *api.Regs, f *Flat) { r.WZ, f.M[0xbcde], r.F = 0x08ff, 0xd7, 0xff }, 0x99, 0x99},
		{[]uint8{0xdd, 0xcb, 5, 0x46}, func(r *api.Regs, f *Flat) { r.IX, r.WZ = 0x27fe, 0 }, 0x7c, 0x7c},
		{[]uint8{0xdd, 0xcb, 5, 0x40}, func(r *api.Regs, f *Flat) { r.IX, r.B = 0x27fe, 0xff }, 0x7c, 0x7c},
		{[]uint8{0xcb, 0x47}, func(r *api.Regs, f *Flat) { r.A, r.WZ = 0x28, 0 }, 0x7c, 0x7c},
		{[]uint8{0xcb, 0x47}, func(r *api.Regs, f *Flat) { r.A, r.WZ = 0, 0xffff }, 0x54, 0x54},
		// ld a,i and ld a,r.
		{[]uint8{0xed, 0x57}, func(r *api.Regs, f *Flat) { r.I, r.F = 0xa8, 0xff }, 0xa9, 0xa9},
		{[]uint8{0xed, 0x57}, func(r *api.Regs, f *Flat) { r.I, r.IFF2 = 0, true }, 0x44, 0x44},
		{[]uint8{0xed, 0x57}, func(r *api.Regs, f *Flat) { r.I, r.IFF1 = 1, true }, 0, 0},
		{[]uint8{0xed, 0x5f}, func(r *api.Regs, f *Flat) { r.R = 0x7e }, 0x40, 0x40},
		{[]uint8{0xed, 0x5f}, func(r *api.Regs, f *Flat) { r.R, r.IFF2, r.F = 0xfe, true, 1 }, 0x85, 0x85},
		// in with (c).
		{[]uint8{0xed, 0x40}, func(r *api.Regs, f *Flat) { f.Ports, r.F = []uint8{0xa8}, 0xff }, 0xa9, 0xa9},
		{[]uint8{0xed, 0x70}, func(r *api.Regs, f *Flat) { f.Ports, r.F = []uint8{0}, 0xfe }, 0x44, 0x44},
		{[]uint8{0xed, 0x78}, func(r *api.Regs, f *Flat) { f.Ports = []uint8{3} }, 0x04, 0x04},
		// scf and ccf by Q.
		{[]uint8{0x37}, func(r *api.Regs, f *Flat) { r.A, r.F, r.Q = 0, 0x28, 0x28 }, 0x01, 0x01},
		{[]uint8{0x37}, func(r *api.Regs, f *Flat) { r.A, r.F, r.Q = 0, 0x28, 0 }, 0x29, 0x29},
		{[]uint8{0x3f}, func(r *api.Regs, f *Flat) { r.A, r.F, r.Q = 0x08, 0x29, 0x29 }, 0x18, 0x18},
		{[]uint8{0x3f}, func(r *api.Regs, f *Flat) { r.A, r.F, r.Q = 0x08, 0x29, 0 }, 0x38, 0x38},
		{[]uint8{0xdd, 0x37}, func(r *api.Regs, f *Flat) { r.A, r.F, r.Q = 0, 0x28, 0x28 }, 0x01, 0x01},
		{[]uint8{0xdd, 0xfd, 0x37}, func(r *api.Regs, f *Flat) { r.A, r.F, r.Q = 0, 0x28, 0 }, 0x29, 0x29},
		// k of ini, ind, outi, outd: the carry of the byte and k.
		{[]uint8{0xed, 0xa2}, func(r *api.Regs, f *Flat) { f.Ports, r.B, r.C = []uint8{0x7f}, 1, 0x80 }, 0x55, 0x55},
		{[]uint8{0xed, 0xa2}, func(r *api.Regs, f *Flat) { f.Ports, r.B, r.C = []uint8{0x7f}, 1, 0x7f }, 0x40, 0x40},
		{[]uint8{0xed, 0xaa}, func(r *api.Regs, f *Flat) { f.Ports, r.B, r.C = []uint8{0x7f}, 1, 0x82 }, 0x55, 0x55},
		{[]uint8{0xed, 0xaa}, func(r *api.Regs, f *Flat) { f.Ports, r.B, r.C = []uint8{0x7f}, 1, 0x81 }, 0x40, 0x40},
		{[]uint8{0xed, 0xa3}, func(r *api.Regs, f *Flat) { f.M[0xbc80], r.B, r.L = 0x7f, 1, 0x80 }, 0x55, 0x55},
		{[]uint8{0xed, 0xa3}, func(r *api.Regs, f *Flat) { f.M[0xbc7f], r.B, r.L = 0x7f, 1, 0x7f }, 0x40, 0x40},
		{[]uint8{0xed, 0xab}, func(r *api.Regs, f *Flat) { f.M[0xbc82], r.B, r.L = 0x7f, 1, 0x82 }, 0x55, 0x55},
		{[]uint8{0xed, 0xab}, func(r *api.Regs, f *Flat) { f.M[0xbc81], r.B, r.L = 0x7e, 1, 0x81 }, 0x44, 0x44},
		// ldir and cpir that go on at 0x2800, or beside it: Y and X.
		{[]uint8{0xed, 0xb0}, func(r *api.Regs, f *Flat) { r.PC = 0x2800; lay(&f.M, 0x2800, 0xed, 0xb0) }, 0x2c, 0x2c},
		{[]uint8{0xed, 0xb0}, func(r *api.Regs, f *Flat) { r.PC = 0x27ff; lay(&f.M, 0x27ff, 0xed, 0xb0); r.A = 0xff }, 0x24, 0x24},
		// What doesn't reckon F.
		{[]uint8{0}, func(r *api.Regs, f *Flat) { r.F, r.Q = 0xff, 0xff }, 0xff, 0},
		{[]uint8{0x78}, func(r *api.Regs, f *Flat) { r.F, r.Q = 0xff, 0xff }, 0xff, 0},
		{[]uint8{0xf1}, func(r *api.Regs, f *Flat) { r.Q = 0xff }, 0x11, 0},
		{[]uint8{0x08}, func(r *api.Regs, f *Flat) { r.Q = 0xff }, 0xf2, 0},
		{[]uint8{0xd9}, func(r *api.Regs, f *Flat) { r.F, r.Q = 0xff, 0xff }, 0xff, 0},
		{[]uint8{0x23}, func(r *api.Regs, f *Flat) { r.F, r.Q = 0xff, 0xff }, 0xff, 0},
		{[]uint8{0x10, 0}, func(r *api.Regs, f *Flat) { r.F, r.Q = 0xff, 0xff }, 0xff, 0},
		{[]uint8{0xdb, 0}, func(r *api.Regs, f *Flat) { r.F, r.Q = 0xff, 0xff }, 0xff, 0},
		{[]uint8{0xed, 0x79}, func(r *api.Regs, f *Flat) { r.F, r.Q = 0xff, 0xff }, 0xff, 0},
		{[]uint8{0xcb, 0xc7}, func(r *api.Regs, f *Flat) { r.F, r.Q = 0xff, 0xff }, 0xff, 0},
		{[]uint8{0xcb, 0x86}, func(r *api.Regs, f *Flat) { r.F, r.Q = 0xff, 0xff }, 0xff, 0},
		{[]uint8{0xed, 0x47}, func(r *api.Regs, f *Flat) { r.F, r.Q = 0xff, 0xff }, 0xff, 0},
		{[]uint8{0x76}, func(r *api.Regs, f *Flat) { r.F, r.Q = 0xff, 0xff }, 0xff, 0},
		{[]uint8{0xed, 0}, func(r *api.Regs, f *Flat) { r.F, r.Q = 0xff, 0xff }, 0xff, 0},
		// What does.
		{[]uint8{0xb7}, func(r *api.Regs, f *Flat) { r.F = 0xff }, 0x04, 0x04},
		{[]uint8{0xaf}, func(r *api.Regs, f *Flat) {}, 0x44, 0x44},
		{[]uint8{0x3c}, func(r *api.Regs, f *Flat) { r.A, r.F = 0x7f, 1 }, 0x95, 0x95},
		{[]uint8{0x35}, func(r *api.Regs, f *Flat) { f.M[0xbcde], r.F = 1, 1 }, 0x43, 0x43},
		{[]uint8{0x07}, func(r *api.Regs, f *Flat) { r.A, r.F = 0x80, 0xff }, 0xc5, 0xc5},
		{[]uint8{0x09}, func(r *api.Regs, f *Flat) { r.F = 0xff }, 0xf4, 0xf4},
		{[]uint8{0xed, 0x44}, func(r *api.Regs, f *Flat) { r.A = 0 }, 0x42, 0x42},
	} {
		r := begun()
		f := flat(e.l...)
		e.set(&r, f)
		c := New(r)
		for ok := true; ok; ok = c.R.Pre != 0 {
			f.Step(c)
		}
		if c.R.F != e.f || c.R.Q != e.q {
			t.Errorf("%x from %+v: F %x, Q %x, not %x, %x", e.l, r, c.R.F, c.R.Q, e.f, e.q)
		}
	}
}

// ei, di, retn, reti, im.
func TestSwitches(t *testing.T) {
	type pair struct{ one, two bool }
	for _, from := range []pair{{false, false}, {false, true}, {true, false}, {true, true}} {
		for _, e := range []struct {
			l  []uint8
			to pair
			im uint8
		}{
			{[]uint8{0xfb}, pair{true, true}, 7}, {[]uint8{0xf3}, pair{false, false}, 7}, {[]uint8{0}, from, 7},
			{[]uint8{0xed, 0x45}, pair{from.two, from.two}, 7}, {[]uint8{0xed, 0x4d}, pair{from.two, from.two}, 7}, {[]uint8{0xed, 0x7d}, pair{from.two, from.two}, 7},
			{[]uint8{0xed, 0x46}, from, 0}, {[]uint8{0xed, 0x4e}, from, 0}, {[]uint8{0xed, 0x56}, from, 1}, {[]uint8{0xed, 0x5e}, from, 2},
			{[]uint8{0xed, 0x66}, from, 0}, {[]uint8{0xed, 0x76}, from, 1}, {[]uint8{0xed, 0x7e}, from, 2},
		} {
			r := begun()
			r.IFF1, r.IFF2, r.IM, r.Hold = from.one, from.two, 7, true
			c := New(r)
			flat(e.l...).Step(c)
			if c.R.IFF1 != e.to.one || c.R.IFF2 != e.to.two || c.R.IM != e.im || c.R.Hold != (e.l[0] == 0xfb) {
				t.Errorf("%x from %v: %+v", e.l, from, c.R)
			}
		}
	}
}

// 12.2

func TestExample(t *testing.T) {
	f := &Flat{}
	f.M[0], f.M[1] = 62, 5
	c := New(api.Regs{})
	if n := f.Step(c); n != 7 || c.R != (api.Regs{A: 5, PC: 2, R: 1}) || f.T != 7 {
		t.Errorf("ld a,5: %d, %+v, %d", n, c.R, f.T)
	}
}

func TestStepOfNil(t *testing.T) {
	var none *Flat
	f, c := flat(), New(begun())
	if none.Step(c) != 0 || none.Step(nil) != 0 || f.Step(nil) != 0 {
		t.Error("T-states of a nil one")
	}
	if c.R != begun() || !c.Done() || f.T != 0 {
		t.Error("a T-state of a nil one")
	}
}

// A Step of what is within an instruction ends that one.
func TestStepGoesOn(t *testing.T) {
	for at := range 7 {
		f, c := flat(62, 5), New(begun())
		for range at {
			c.Tick(f)
		}
		if n := f.Step(c); n != 7-at || f.T != uint64(7-at) || c.R.A != 5 || c.R.PC != 0x0102 {
			t.Errorf("behind %d T-states: %d, %d, %+v", at, n, f.T, c.R)
		}
	}
}

func TestFlatMemory(t *testing.T) {
	f := &Flat{}
	for a := range 65536 {
		f.Write(uint16(a), uint8(a*7+a>>8))
	}
	for a := range 65536 {
		if v := uint8(a*7 + a>>8); f.M[a] != v || f.Read(uint16(a)) != v {
			t.Fatal("memory at", a)
		}
	}
	for kind := -1; kind < 7; kind++ {
		for k := -1; k < 8; k++ {
			if f.Hold(kind, 0x4000, k) != 0 {
				t.Fatal("it holds")
			}
		}
	}
	if f.Int() || f.T != 0 || f.Acts != nil {
		t.Error("something else changed")
	}
	f.Line = true
	if !f.Int() {
		t.Error("no interrupt is asked for")
	}
}

// in a,(254); out (254),a; ini; outi; in a,(c), from T 100 on.
func TestPorts(t *testing.T) {
	f := flat(219, 254, 211, 253, 237, 0xa2, 237, 0xa3, 237, 0x78, 219, 1)
	ports := []uint8{7, 0, 9}
	f.Ports = ports
	f.T = 100
	f.M[0xbcdf] = 0x66
	c := New(begun())
	if n := steps(f, c, 6); !slices.Equal(n, []int{11, 11, 16, 16, 12, 11}) {
		t.Error("T-states", n)
	}
	want := []api.Act{
		{T: 110, Out: false, Port: 0x12fe, V: 7},
		{T: 121, Out: true, Port: 0x07fd, V: 7},
		// The port's cycle is ahead of memory's with ini, behind it with outi.
		{T: 134, Out: false, Port: 0x3456, V: 0},
		{T: 153, Out: true, Port: 0x3256, V: 0x66},
		{T: 165, Out: false, Port: 0x3256, V: 9},
		{T: 176, Out: false, Port: 0x0901, V: 255},
	}
	if !slices.Equal(f.Acts, want) {
		t.Errorf("%v\nnot %v", f.Acts, want)
	}
	if f.M[0xbcde] != 0 || c.R.A != 255 || f.T != 177 {
		t.Errorf("%d, %+v, %d", f.M[0xbcde], c.R, f.T)
	}
	if !slices.Equal(ports, []uint8{7, 0, 9}) {
		t.Error("what was handed in is changed")
	}
	// More of them are answered next.
	f.Ports = []uint8{33}
	if f.In(5) != 33 || f.In(5) != 255 || f.In(5) != 255 || len(f.Acts) != 9 {
		t.Error("ports that were put anew")
	}
	if last := f.Acts[8]; last != (api.Act{T: 177, Port: 5, V: 255}) {
		t.Error(last)
	}
}

// 12.3

// plainTimes are the T-states of plain codes with their conditions met; 0 stands
// for the prefixes.
var plainTimes = [256]int{
	4, 10, 7, 6, 4, 4, 7, 4, 4, 11, 7, 6, 4, 4, 7, 4,
	13, 10, 7, 6, 4, 4, 7, 4, 12, 11, 7, 6, 4, 4, 7, 4,
	12, 10, 16, 6, 4, 4, 7, 4, 12, 11, 16, 6, 4, 4, 7, 4,
	12, 10, 13, 6, 11, 11, 10, 4, 12, 11, 13, 6, 4, 4, 7, 4,
	4, 4, 4, 4, 4, 4, 7, 4, 4, 4, 4, 4, 4, 4, 7, 4,
	4, 4, 4, 4, 4, 4, 7, 4, 4, 4, 4, 4, 4, 4, 7, 4,
	4, 4, 4, 4, 4, 4, 7, 4, 4, 4, 4, 4, 4, 4, 7, 4,
	7, 7, 7, 7, 7, 7, 4, 7, 4, 4, 4, 4, 4, 4, 7, 4,
	4, 4, 4, 4, 4, 4, 7, 4, 4, 4, 4, 4, 4, 4, 7, 4,
	4, 4, 4, 4, 4, 4, 7, 4, 4, 4, 4, 4, 4, 4, 7, 4,
	4, 4, 4, 4, 4, 4, 7, 4, 4, 4, 4, 4, 4, 4, 7, 4,
	4, 4, 4, 4, 4, 4, 7, 4, 4, 4, 4, 4, 4, 4, 7, 4,
	11, 10, 10, 10, 17, 11, 7, 11, 11, 10, 10, 0, 17, 17, 7, 11,
	11, 10, 10, 11, 17, 11, 7, 11, 11, 4, 10, 11, 17, 0, 7, 11,
	11, 10, 10, 19, 17, 11, 7, 11, 11, 4, 10, 4, 17, 0, 7, 11,
	11, 10, 10, 4, 17, 11, 7, 11, 11, 6, 10, 4, 17, 0, 7, 11,
}

// moreTimes are those of the codes behind 237 from 64 to 127, both fetches among
// them.
var moreTimes = [64]int{
	12, 12, 15, 20, 8, 14, 8, 9, 12, 12, 15, 20, 8, 14, 8, 9,
	12, 12, 15, 20, 8, 14, 8, 9, 12, 12, 15, 20, 8, 14, 8, 9,
	12, 12, 15, 20, 8, 14, 8, 18, 12, 12, 15, 20, 8, 14, 8, 18,
	12, 12, 15, 20, 8, 14, 8, 8, 12, 12, 15, 20, 8, 14, 8, 8,
}

// unmet is the T-states of a plain code whose condition isn't met.
func unmet(code uint8) int {
	switch {
	case code == 16:
		return 8
	case code>>5 == 1:
		return 7
	case code&7 == 0:
		return 5
	}
	return 10
}

// asks tells whether a plain code asks for a condition, and whether F, that is 0
// or 255, and B meet it.
func asks(code, f, b uint8) (bool, bool) {
	switch {
	case code == 16:
		return true, b != 1
	case code>>5 == 1 && code&7 == 0, code>>6 == 3 && (code&7 == 0 || code&7 == 2 || code&7 == 4):
		return true, code>>3&1 == f&1
	}
	return false, true
}

func TestTimes(t *testing.T) {
	for k := range 256 {
		code := uint8(k)
		for _, f := range []uint8{0, 255} {
			for _, b := range []uint8{0, 1, 2} {
				if plainTimes[k] == 0 {
					continue
				}
				want := plainTimes[k]
				asked, met := asks(code, f, b)
				if asked && !met {
					want = unmet(code)
				}
				r := begun()
				r.F, r.B = f, b
				if n := flat(code).Step(New(r)); n != want || n != 4+micro.Time(micro.Program(nil, 0, 0, code), met) {
					t.Errorf("%d with F %d, B %d: %d, not %d", k, f, b, n, want)
				}
				for pre := range 2 {
					c, bus := New(r), flat(uint8(221+32*pre), code)
					n := steps(bus, c, 2)
					want := want
					switch {
					case k == 54:
						want += 5
					case k == 52, k == 53, k>>6 == 1 && k != 118 && (k&7 == 6 || k>>3&7 == 6), k>>6 == 2 && k&7 == 6:
						want += 8
					}
					if n[0] != 4 || n[1] != want || n[1] != 4+micro.Time(micro.Program(nil, 0, pre+1, code), met) {
						t.Errorf("%d with an index, F %d, B %d: %v, not %d", k, f, b, n, want)
					}
				}
			}
		}
	}
}

func TestTimesBehindPrefixes(t *testing.T) {
	for k := range 256 {
		code := uint8(k)
		want := 8
		if k&7 == 6 {
			want = 15
		}
		at := 19
		if k>>6 == 1 {
			want = min(want, 12)
			at = 16
		}
		if n := flat(203, code).Step(New(begun())); n != want {
			t.Errorf("203, %d: %d, not %d", k, n, want)
		}
		for _, pre := range []uint8{221, 253} {
			if n := steps(flat(pre, 203, 5, code), New(begun()), 2); !slices.Equal(n, []int{4, at}) {
				t.Errorf("%d, 203, 5, %d: %v, not %d", pre, k, n, at)
			}
			if met := 12 + micro.Time(micro.Program(nil, 3, 1, code), true); met != at {
				t.Errorf("layer 8 has %d of %d", met, k)
			}
		}
		want = 8
		switch {
		case k>>6 == 1:
			want = moreTimes[k-64]
		case k >= 160 && k < 176 && k&7 < 4:
			want = 16
		case k >= 176 && k < 192 && k&7 < 4:
			want = 21
		}
		if n := flat(237, code).Step(New(begun())); n != want || n != 8+micro.Time(micro.Program(nil, 2, 0, code), true) {
			t.Errorf("237, %d: %d, not %d", k, n, want)
		}
	}
}

// looped runs a program at 0x0100 up to a halt.
func looped(t *testing.T, m *[65536]uint8, r api.Regs, line int, l ...uint8) (*Flat, api.Regs) {
	t.Helper()
	f := &Flat{M: *m}
	lay(&f.M, 0x0100, l...)
	c := New(r)
	for n := 0; !c.R.Halt; n++ {
		f.Line = line > 0 && n%line == 0
		f.Step(c)
		if n > 1000000 {
			t.Fatal("no halt")
		}
	}
	return f, c.R
}

// ldir and lddr do what a loop does that loads a byte, stores it, and counts; also
// if they are interrupted now and then, and over their own bytes.
func TestCopyLoop(t *testing.T) {
	x := chance(77)
	m := &[65536]uint8{}
	x.fill(m)
	// At 56: ei, ret.
	lay(m, 56, 0xfb, 0xc9)
	for round := range 40 {
		r := begun()
		hl, de, bc := 0x3000+x.word()%0x4000, 0x3000+x.word()%0x4000, x.word()%0x0800
		switch round {
		case 0:
			bc = 1
		case 1:
			hl, de, bc = 0x4000, 0x4001, 500
		case 2:
			hl, de, bc = 0x4000, 0x3fff, 500
		case 3:
			hl, de, bc = 0x4000, 0x4000, 500
		}
		if bc == 0 {
			bc = 1
		}
		r.H, r.L, r.D, r.E, r.B, r.C = uint8(hl>>8), uint8(hl), uint8(de>>8), uint8(de), uint8(bc>>8), uint8(bc)
		r.IM = 1
		r.SP = 0x2000
		block, on := uint8(0xb0), []uint8{0x23, 0x13}
		if round%2 == 1 {
			block, on = 0xb8, []uint8{0x2b, 0x1b}
		}
		// ld a,(hl); ld (de),a; inc hl; inc de; dec bc; ld a,b; or c; jr nz; halt.
		want, last := looped(t, m, r, 0, 0x7e, 0x12, on[0], on[1], 0x0b, 0x78, 0xb1, 0x20, 0xf7, 0x76)
		for _, line := range []int{0, 4, 7} {
			s := r
			s.IFF1, s.IFF2 = line > 0, line > 0
			f, got := looped(t, m, s, line, 0xed, block, 0x76)
			lay(&f.M, 0x0100, want.M[0x0100:0x0110]...)
			lay(&f.M, 0x1ff0, want.M[0x1ff0:0x2000]...)
			if f.M != want.M {
				t.Fatalf("round %d, line %d: memory is other than a loop's", round, line)
			}
			if got.H != last.H || got.L != last.L || got.D != last.D || got.E != last.E || got.B != 0 || got.C != 0 || got.A != 0x12 {
				t.Fatalf("round %d: %+v, not %+v", round, got, last)
			}
			if line == 0 && f.T != uint64(21*int(bc)-5+4) {
				t.Fatalf("round %d: %d T-states of %d bytes", round, f.T, bc)
			}
		}
	}
}

// Of BC 0 ldir copies 65,536 bytes: all of them become what they are.
func TestCopyAll(t *testing.T) {
	f := flat(237, 0xb0)
	chance := chance(9)
	chance.fill(&f.M)
	lay(&f.M, 0x0100, 237, 0xb0)
	was := f.M
	r := begun()
	r.B, r.C, r.D, r.E, r.H, r.L = 0, 0, 1, 2, 1, 2
	c := New(r)
	n := 0
	for c.R.PC != 0x0102 {
		f.Step(c)
		n++
	}
	if n != 65536 || f.M != was || f.T != 21*65536-5 {
		t.Errorf("%d times, %d T-states", n, f.T)
	}
}
