package wire

import (
	"bytes"
	"math"
	"slices"
	"testing"

	"squeal/api"
)

// chance is a row of numbers by a short rule.
type chance uint64

func (c *chance) below(n int) int {
	*c = *c*6364136223846793005 + 1442695040888963407
	return int(uint64(*c) >> 31 % uint64(n))
}

// rule is n bytes by a short rule that begins with seed.
func rule(seed, n int) []byte {
	l := make([]byte, n)
	c := chance(seed)
	for i := range l {
		l[i] = byte(c.below(256))
	}
	return l
}

// lowestFirst is the number that bytes tell, the highest of them gone through
// first.
func lowestFirst(b []byte) int {
	v := 0
	for i := range b {
		v = 256*v + int(b[len(b)-1-i])
	}
	return v
}

// checkState holds all that a reader without a fault tells of itself.
func checkState(t *testing.T, what string, r *Reader, at, left int) {
	t.Helper()
	if r.At() != at || r.Left() != left || r.Bad() {
		t.Fatalf("%s: At %d, Left %d, Bad %v, not %d, %d, false", what, r.At(), r.Left(), r.Bad(), at, left)
	}
	if left > 0 {
		checkEnd(t, what, r, api.ErrForm, at)
	} else if err := r.End(); err != nil {
		t.Fatalf("%s: End is %v", what, err)
	}
}

func checkEnd(t *testing.T, what string, r *Reader, wantE api.Errno, wantAt int) {
	t.Helper()
	f, ok := r.End().(*Fault)
	if !ok || f == nil || *f != (Fault{wantE, wantAt}) {
		t.Fatalf("%s: End is %v, not the fault %d at %d", what, r.End(), wantE, wantAt)
	}
}

// checkStuck has r have that fault, stand at that place, and do nothing more.
func checkStuck(t *testing.T, what string, r *Reader, e api.Errno, faultAt, at int) {
	t.Helper()
	for range 2 {
		if !r.Bad() || r.At() != at || r.Left() != 0 {
			t.Fatalf("%s: Bad %v, At %d, Left %d, not true, %d, 0", what, r.Bad(), r.At(), r.Left(), at)
		}
		checkEnd(t, what, r, e, faultAt)
		checkSilent(t, what, r)
	}
}

// checkSilent has r answer nothing, whatever it is asked.
func checkSilent(t *testing.T, what string, r *Reader) {
	t.Helper()
	for _, n := range []int{1, 2, 3, 4, 0, -1, 5, math.MinInt, math.MaxInt} {
		if v := r.Number(n); v != 0 {
			t.Fatalf("%s: Number(%d) is %d", what, n, v)
		}
		if b := r.Take(n); len(b) != 0 {
			t.Fatalf("%s: Take(%d) is %x", what, n, b)
		}
		for _, many := range []int{1, 0, 2, -1, math.MaxInt} {
			if l := r.Numbers(many, n); len(l) != 0 {
				t.Fatalf("%s: Numbers(%d, %d) is %d", what, many, n, l)
			}
		}
	}
	if v := r.Signed(); v != 0 {
		t.Fatalf("%s: Signed is %d", what, v)
	}
	r.Fail(api.ErrSum, 77)
	r.Fail(api.OK, 78)
}

// 17.2

func TestNumberWrittenOut(t *testing.T) {
	b := []byte{1, 2, 3, 4, 255, 254, 253, 252}
	for _, x := range []struct{ n, first, second int }{
		{1, 1, 2},
		{2, 0x0201, 0x0403},
		{3, 0x030201, 0xfeff04},
		{4, 0x04030201, 0xfcfdfeff},
	} {
		r := Read(b)
		checkState(t, "at first", r, 0, 8)
		if got := r.Number(x.n); got != x.first {
			t.Errorf("the first number of %d bytes is %x, not %x", x.n, got, x.first)
		}
		checkState(t, "behind one", r, x.n, 8-x.n)
		if got := r.Number(x.n); got != x.second {
			t.Errorf("the second number of %d bytes is %x, not %x", x.n, got, x.second)
		}
		checkState(t, "behind two", r, 2*x.n, 8-2*x.n)
	}
	r := Read([]byte{255, 255, 255, 255})
	if got := r.Number(4); got != 4294967295 {
		t.Errorf("the greatest number is %d", got)
	}
	checkState(t, "at the end", r, 4, 0)
}

// TestFewerBytes has each count of bytes ahead and behind, and all that need
// more of them than there are.
func TestFewerBytes(t *testing.T) {
	for ahead := range 6 {
		for there := range 5 {
			b := rule(ahead, ahead+there)
			for need := there + 1; need <= 9; need++ {
				for what, ask := range asksOf(need) {
					r := Read(b)
					r.Take(ahead)
					if ask(r) {
						t.Errorf("%d of %d bytes: something is answered", there, need)
					}
					checkStuck(t, what, r, api.ErrEnd, ahead, ahead)
				}
			}
		}
	}
}

// asksOf are calls that need so many bytes, by their names; each tells whether
// it answered anything.
func asksOf(need int) map[string]func(*Reader) bool {
	asks := map[string]func(*Reader) bool{
		"Take": func(r *Reader) bool { return len(r.Take(need)) > 0 },
	}
	if need <= 4 {
		asks["Number"] = func(r *Reader) bool { return r.Number(need) != 0 }
	}
	if need == 2 {
		asks["Signed"] = func(r *Reader) bool { return r.Signed() != 0 }
	}
	for n, name := range []string{1: "Numbers of 1", 2: "Numbers of 2", 3: "Numbers of 3", 4: "Numbers of 4"} {
		if n > 0 && need%n == 0 {
			asks[name] = func(r *Reader) bool { return len(r.Numbers(need/n, n)) > 0 }
		}
	}
	return asks
}

func TestFewerBytesByFar(t *testing.T) {
	for _, n := range []int{101, 1 << 31, 1 << 32, 1<<32 + 1, 1 << 62, math.MaxInt} {
		r := Read(rule(1, 101))
		r.Number(1)
		if b := r.Take(n); len(b) != 0 {
			t.Errorf("Take(%d) is %d bytes", n, len(b))
		}
		checkStuck(t, "Take", r, api.ErrEnd, 1, 1)
		for size := 1; size <= 4; size++ {
			r := Read(rule(1, 101))
			r.Number(1)
			if l := r.Numbers(n, size); len(l) != 0 {
				t.Errorf("Numbers(%d, %d) is %d numbers", n, size, len(l))
			}
			checkStuck(t, "Numbers", r, api.ErrEnd, 1, 1)
		}
	}
}

// TestOtherLengths has a number of none, or of more than four, bytes be
// refused at the reader's place, whether there are as many bytes or not.
func TestOtherLengths(t *testing.T) {
	for _, n := range noLengths() {
		for _, there := range []int{0, 1, 4, 5, 300} {
			r := Read(rule(1, 3+there))
			r.Take(3)
			if v := r.Number(n); v != 0 {
				t.Errorf("Number(%d) is %d", n, v)
			}
			checkStuck(t, "Number", r, api.ErrArg, 3, 3)
		}
	}
}

func TestSigned(t *testing.T) {
	for _, x := range []struct {
		b    string
		want int
	}{
		{"\x00\x00", 0}, {"\x01\x00", 1}, {"\x00\x01", 256}, {"\xff\x7f", 32767},
		{"\x00\x80", -32768}, {"\x01\x80", -32767}, {"\xff\xff", -1}, {"\xfe\xff", -2}, {"\xff\x00", 255}, {"\x00\xff", -256},
	} {
		if got := Read([]byte(x.b)).Signed(); got != x.want {
			t.Errorf("Signed of %x is %d, not %d", x.b, got, x.want)
		}
	}
	for v := range 65536 {
		r := Read([]byte{9, byte(v % 256), byte(v / 256), 9})
		r.Number(1)
		want := v
		if v >= 32768 {
			want -= 65536
		}
		if got := r.Signed(); got != want {
			t.Fatalf("Signed of %d is %d, not %d", v, got, want)
		}
		checkState(t, "behind Signed", r, 3, 1)
	}
}

func TestTake(t *testing.T) {
	b := rule(7, 40)
	for from := range 41 {
		for n := 0; from+n <= 40; n++ {
			r := Read(b)
			if got := r.Take(from); !bytes.Equal(got, b[:from]) {
				t.Fatalf("Take(%d) is %x", from, got)
			}
			if got := r.Take(n); !bytes.Equal(got, b[from:from+n]) {
				t.Fatalf("Take(%d) at %d is %x", n, from, got)
			}
			checkState(t, "behind Take", r, from+n, 40-from-n)
		}
	}
	for _, n := range []int{-1, -2, -4, -40, math.MinInt} {
		for _, at := range []int{0, 3, 40} {
			r := Read(b)
			r.Take(at)
			if got := r.Take(n); len(got) != 0 {
				t.Errorf("Take(%d) is %x", n, got)
			}
			checkStuck(t, "Take of fewer than none", r, api.ErrArg, at, at)
		}
	}
}

func TestNumbers(t *testing.T) {
	b := rule(9, 26)
	for at := range 3 {
		for n := 1; n <= 4; n++ {
			for many := 0; at+many*n <= len(b); many++ {
				var want []int
				for i := range many {
					want = append(want, lowestFirst(b[at+i*n:at+i*n+n]))
				}
				r := Read(b)
				r.Take(at)
				if got := r.Numbers(many, n); !slices.Equal(got, want) {
					t.Fatalf("Numbers(%d, %d) at %d is %d, not %d", many, n, at, got, want)
				}
				checkState(t, "behind Numbers", r, at+many*n, len(b)-at-many*n)
			}
		}
	}
	if got := Read([]byte{3, 2, 1, 255, 255, 255, 0}).Numbers(2, 3); !slices.Equal(got, []int{66051, 16777215}) {
		t.Errorf("two numbers of 3 bytes are %d", got)
	}
}

func TestNumbersThatMayNotBe(t *testing.T) {
	for _, there := range []int{0, 1, 4, 8, 300} {
		for _, n := range append(noLengths(), 1, 2, 3, 4) {
			for _, many := range []int{-1, -2, math.MinInt} {
				checkNumbersRefused(t, there, many, n, api.ErrArg)
			}
		}
		for _, n := range noLengths() {
			checkNumbersRefused(t, there, 0, n, api.ErrArg)
			for _, many := range []int{1, 2, 60, math.MaxInt} {
				want := api.ErrArg
				if n > 0 && there/n < many {
					want = api.ErrEnd
				}
				checkNumbersRefused(t, there, many, n, want)
			}
		}
	}
}

func checkNumbersRefused(t *testing.T, there, many, n int, want api.Errno) {
	t.Helper()
	r := Read(rule(1, 2+there))
	r.Number(2)
	if l := r.Numbers(many, n); len(l) != 0 {
		t.Errorf("Numbers(%d, %d) is %d numbers", many, n, len(l))
	}
	checkStuck(t, "Numbers", r, want, 2, 2)
}

// TestNoneAtTheEnd has a reader whose bytes are over go on with what needs
// none.
func TestNoneAtTheEnd(t *testing.T) {
	for _, n := range []int{0, 1, 9} {
		r := Read(rule(1, n))
		r.Take(n)
		if b := r.Take(0); len(b) != 0 {
			t.Errorf("Take(0) is %x", b)
		}
		for size := 1; size <= 4; size++ {
			if l := r.Numbers(0, size); len(l) != 0 {
				t.Errorf("Numbers(0, %d) is %d", size, l)
			}
		}
		checkState(t, "at the end", r, n, 0)
	}
}

// 17.3

func TestFail(t *testing.T) {
	for _, e := range []api.Errno{1, 2, 3, 4, 5, 6, 7, 8, 9, 10, 11, 12, 13, -1} {
		for _, at := range []int{0, 1, 5, 8, 9, 1000, math.MaxInt} {
			for _, read := range []int{0, 3, 8} {
				r := Read(rule(1, 8))
				r.Take(read)
				r.Fail(api.OK, at)
				checkState(t, "behind a fault that is none", r, read, 8-read)
				r.Fail(e, at)
				checkStuck(t, "behind a fault", r, e, at, read)
				r.Fail(e+1, at)
				r.Fail(e, at-1)
				checkStuck(t, "behind more faults", r, e, at, read)
			}
		}
	}
}

// TestFirstFaultStays has the faults that a reader finds by itself be the
// first one, or not.
func TestFirstFaultStays(t *testing.T) {
	for _, x := range []struct {
		what  string
		ask   func(*Reader)
		wantE api.Errno
	}{
		{"Number, fewer", func(r *Reader) { r.Number(3) }, api.ErrEnd},
		{"Number of 5", func(r *Reader) { r.Number(5) }, api.ErrArg},
		{"Take, fewer", func(r *Reader) { r.Take(3) }, api.ErrEnd},
		{"Take of -1", func(r *Reader) { r.Take(-1) }, api.ErrArg},
		{"Numbers, fewer", func(r *Reader) { r.Numbers(2, 2) }, api.ErrEnd},
		{"Numbers, -1 of them", func(r *Reader) { r.Numbers(-1, 2) }, api.ErrArg},
		{"Fail", func(r *Reader) { r.Fail(api.ErrLoop, 4) }, api.ErrLoop},
	} {
		r := Read(rule(1, 6))
		r.Take(4)
		x.ask(r)
		checkStuck(t, x.what, r, x.wantE, 4, 4)
		r = Read(rule(1, 6))
		r.Take(4)
		r.Fail(api.ErrSign, 1)
		x.ask(r)
		checkStuck(t, x.what+" as the second", r, api.ErrSign, 1, 4)
	}
	r := Read([]byte{1})
	r.Signed()
	checkStuck(t, "Signed, fewer", r, api.ErrEnd, 0, 0)
}

// TestEndChangesNothing has a reader whose End tells that bytes are left go on
// as if it hadn't been asked.
func TestEndChangesNothing(t *testing.T) {
	r := Read([]byte{1, 2, 3})
	for at := range 3 {
		for range 3 {
			checkEnd(t, "with bytes left", r, api.ErrForm, at)
		}
		checkState(t, "behind End", r, at, 3-at)
		if v := r.Number(1); v != at+1 {
			t.Errorf("the byte %d is %d", at, v)
		}
	}
	for range 3 {
		if err := r.End(); err != nil {
			t.Errorf("End is %v", err)
		}
	}
	checkState(t, "behind all", r, 3, 0)
	if v := r.Number(1); v != 0 {
		t.Errorf("behind all a number is %d", v)
	}
	checkStuck(t, "behind all", r, api.ErrEnd, 3, 3)
}

// TestEndIsNew has whoever changes a fault that was told change no other.
func TestEndIsNew(t *testing.T) {
	r := Read([]byte{1, 2})
	*Only(r.End()) = Fault{api.ErrSum, 50}
	checkState(t, "a fault for bytes that are left", r, 0, 2)
	r.Fail(api.ErrLoop, 1)
	first, second := Only(r.End()), Only(r.End())
	if first == second {
		t.Error("two answers are one")
	}
	*first = Fault{}
	if *second != (Fault{api.ErrLoop, 1}) {
		t.Errorf("the second answer became %v", *second)
	}
	checkStuck(t, "a fault that was changed", r, api.ErrLoop, 1, 0)
}

func TestNilReader(t *testing.T) {
	var r *Reader
	for range 2 {
		if r.At() != 0 || r.Left() != 0 || r.Bad() {
			t.Errorf("a nil reader: At %d, Left %d, Bad %v", r.At(), r.Left(), r.Bad())
		}
		if err := r.End(); err != nil {
			t.Errorf("a nil reader's End is %v", err)
		}
		checkSilent(t, "a nil reader", r)
	}
}

func TestNoBytes(t *testing.T) {
	for _, b := range [][]byte{nil, {}} {
		checkState(t, "no bytes", Read(b), 0, 0)
		r := Read(b)
		if v := r.Number(1); v != 0 {
			t.Errorf("a number of no bytes is %d", v)
		}
		checkStuck(t, "no bytes", r, api.ErrEnd, 0, 0)
	}
}

// TestReadersShareNothing has what is handed in stay as it is, and be no
// matter to a reader once it is made; nor is what the reader told.
func TestReadersShareNothing(t *testing.T) {
	b := make([]byte, 20, 40)
	copy(b, rule(4, 20))
	kept := slices.Clone(b)
	first, second := Read(b), Read(b)
	clear(first.Take(5))
	clear(first.Numbers(2, 3))
	taken := first.Take(3)
	_ = append(taken, 1, 2, 3)
	if !bytes.Equal(b, kept) || !bytes.Equal(b[20:40], make([]byte, 20)) {
		t.Fatal("what was handed in is changed")
	}
	clear(b)
	if !bytes.Equal(taken, kept[11:14]) {
		t.Errorf("what was taken became %x", taken)
	}
	if got := first.Take(6); !bytes.Equal(got, kept[14:]) {
		t.Errorf("the rest became %x", got)
	}
	if got := second.Take(20); !bytes.Equal(got, kept) {
		t.Errorf("another reader has %x", got)
	}
}

// model is a reader in another way: it drops what it reads.
type model struct {
	rest  []byte
	at    int
	fault *Fault
}

// ask is the bytes that a call needs, or nothing behind a fault.
func (m *model) ask(need int, right bool) []byte {
	switch {
	case m.fault != nil:
		return nil
	case need > len(m.rest):
		m.fault = &Fault{api.ErrEnd, m.at}
		return nil
	case !right:
		m.fault = &Fault{api.ErrArg, m.at}
		return nil
	}
	b := m.rest[:need]
	m.rest = m.rest[need:]
	m.at += need
	return b
}

func (m *model) left() int {
	if m.fault != nil {
		return 0
	}
	return len(m.rest)
}

// TestRowsOfCalls has a reader and the model do the same things by chance.
func TestRowsOfCalls(t *testing.T) {
	c := chance(31)
	for round := range 20000 {
		b := rule(round, c.below(60))
		r, m := Read(b), &model{rest: b}
		for range 1 + c.below(20) {
			doBoth(t, &c, r, m)
			if r.At() != m.at || r.Left() != m.left() || r.Bad() != (m.fault != nil) {
				t.Fatalf("At %d, Left %d, Bad %v, not %d, %d, %v", r.At(), r.Left(), r.Bad(), m.at, m.left(), m.fault)
			}
			if m.fault != nil {
				checkEnd(t, "a fault", r, m.fault.E, m.fault.At)
			} else {
				checkState(t, "no fault", r, m.at, len(m.rest))
			}
		}
	}
}

// doBoth does one thing with both readers, and holds their answers against
// each other.
func doBoth(t *testing.T, c *chance, r *Reader, m *model) {
	t.Helper()
	right := c.below(30) > 0
	switch c.below(5) {
	case 0:
		n := 1 + c.below(4)
		if !right {
			n = -c.below(2)
		}
		checkSame(t, "Number", []int{r.Number(n)}, []int{lowestFirst(m.ask(n, right))})
	case 1:
		want := lowestFirst(m.ask(2, true))
		if want > 32767 {
			want -= 65536
		}
		checkSame(t, "Signed", []int{r.Signed()}, []int{want})
	case 2:
		n := c.below(12)
		if !right {
			n = -1
		}
		if got, want := r.Take(n), m.ask(n, right); !bytes.Equal(got, want) {
			t.Fatalf("Take(%d) is %x, not %x", n, got, want)
		}
	case 3:
		many, n := c.below(6), 1+c.below(4)
		if !right {
			many = -1
		}
		b := m.ask(many*n, right)
		var want []int
		for ; len(b) > 0; b = b[n:] {
			want = append(want, lowestFirst(b[:n]))
		}
		checkSame(t, "Numbers", r.Numbers(many, n), want)
	default:
		if e := api.Errno(c.below(13)); !right {
			r.Fail(e, m.at/2)
			if m.fault == nil && e != api.OK {
				m.fault = &Fault{e, m.at / 2}
			}
		}
	}
}

func checkSame(t *testing.T, what string, got, want []int) {
	t.Helper()
	if !slices.Equal(got, want) {
		t.Fatalf("%s: %d, not %d", what, got, want)
	}
}

// 17.4

// TestPutIsRead puts numbers one behind the other and reads them one by one.
func TestPutIsRead(t *testing.T) {
	c := chance(23)
	for range 2000 {
		var b []byte
		var sizes, put []int
		for range c.below(30) {
			n := 1 + c.below(4)
			v := c.below(1 << (8 * n))
			b = Put(b, n, v)
			sizes, put = append(sizes, n), append(put, v)
		}
		r := Read(b)
		for i, n := range sizes {
			if got := r.Number(n); got != put[i] {
				t.Fatalf("of %d bytes %d was put, %d is read", n, put[i], got)
			}
		}
		checkState(t, "behind all that was put", r, len(b), 0)
	}
}

// TestPutIsReadAsRow puts numbers of one length and reads them together, and
// what doesn't fit by its lowest bytes.
func TestPutIsReadAsRow(t *testing.T) {
	c := chance(29)
	for n := 1; n <= 4; n++ {
		var b []byte
		var want []int
		for range 500 {
			v := c.below(1<<33) - 1<<32
			b = Put(b, n, v)
			want = append(want, v&(1<<(8*n)-1))
		}
		checkSame(t, "what was put", Read(b).Numbers(500, n), want)
	}
	for v := -32768; v <= 32767; v++ {
		if got := Read(Put(nil, 2, v)).Signed(); got != v {
			t.Fatalf("%d was put, %d is read", v, got)
		}
	}
}

// TestReadIsPut puts what was read: the bytes are the same again.
func TestReadIsPut(t *testing.T) {
	for n := 1; n <= 4; n++ {
		b := rule(n, 12*n)
		var again []byte
		for _, v := range Read(b).Numbers(12, n) {
			again = Put(again, n, v)
		}
		if !bytes.Equal(again, b) {
			t.Errorf("of %d bytes: %x, not %x", n, again, b)
		}
	}
}
