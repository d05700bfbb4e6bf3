package wire

import (
	"bytes"
	"errors"
	"fmt"
	"math"
	"slices"
	"strconv"
	"testing"

	"squeal/api"
)

// held is an error that has a fault in it, but is none.
type held struct{ *Fault }

// claims is an error that says it is any other one.
type claims struct{}

func (claims) Error() string   { return "fault 4 at byte 7" }
func (claims) Is(error) bool   { return true }
func (claims) As(to any) bool  { *to.(**Fault) = &Fault{4, 7}; return true }
func (claims) Unwrap() []error { return []error{&Fault{4, 7}} }

// plain is an error by its value.
type plain int

func (plain) Error() string { return "" }

// otherErrors are those that are no fault, though some have one in them.
func otherErrors() []error {
	f := &Fault{api.ErrEnd, 9}
	return []error{
		errors.New(""), errors.New("fault 2 at byte 9"), errors.New(f.Error()),
		fmt.Errorf("further: %w", f), errors.Join(f), errors.Join(f, f),
		held{f}, &held{f}, claims{}, &claims{}, plain(0), plain(2), (*held)(nil),
	}
}

// someFaults are faults of each class, at places of each kind.
func someFaults() []Fault {
	var l []Fault
	for e := api.ErrArg; e <= api.ErrSyntax; e++ {
		for _, at := range []int{0, 1, 9, 10, 255, 65536, 1048576, math.MaxInt32, math.MaxInt} {
			l = append(l, Fault{e, at})
		}
	}
	return l
}

// Words: a fault as text

func TestFaultsAsText(t *testing.T) {
	for _, x := range []struct {
		f    *Fault
		want string
	}{
		{nil, ""},
		{&Fault{api.ErrEnd, 0}, "fault 2 at byte 0"},
		{&Fault{api.ErrForm, 7}, "fault 4 at byte 7"},
		{&Fault{api.ErrSyntax, 1048576}, "fault 12 at byte 1048576"},
		{&Fault{api.ErrNone, 10}, "fault 10 at byte 10"},
	} {
		if got := x.f.Error(); got != x.want {
			t.Errorf("the text is %q, not %q", got, x.want)
		}
	}
	for _, f := range someFaults() {
		want := "fault " + strconv.Itoa(int(f.E)) + " at byte " + strconv.Itoa(f.At)
		if got := f.Error(); got != want {
			t.Errorf("the text is %q, not %q", got, want)
		}
	}
}

// 17.1

func checkWhy(t *testing.T, err error, wantE api.Errno, wantAt int) {
	t.Helper()
	if e, at := Why(err); e != wantE || at != wantAt {
		t.Errorf("Why(%#v) is %d, %d, not %d, %d", err, e, at, wantE, wantAt)
	}
}

func TestWhy(t *testing.T) {
	checkWhy(t, nil, api.OK, 0)
	for _, f := range someFaults() {
		checkWhy(t, &f, f.E, f.At)
	}
	for _, err := range otherErrors() {
		checkWhy(t, err, api.ErrArg, 0)
	}
	checkWhy(t, (*Fault)(nil), api.ErrArg, 0)
}

// panics is whether f does.
func panics(f func()) (did bool) {
	defer func() { did = recover() != nil }()
	f()
	return false
}

func TestOnly(t *testing.T) {
	for _, f := range someFaults() {
		kept := f
		if Only(&f) != &f || f != kept {
			t.Errorf("Only of %v is another one", kept)
		}
	}
	if Only((*Fault)(nil)) != nil {
		t.Error("Only of a nil fault is another one")
	}
	for _, err := range append(otherErrors(), nil) {
		if !panics(func() { Only(err) }) {
			t.Errorf("Only(%#v) doesn't panic", err)
		}
	}
}

func TestPutWrittenOut(t *testing.T) {
	for _, x := range []struct {
		ahead string
		n, v  int
		want  string
	}{
		{"", 3, 66051, "\x03\x02\x01"},
		{"", 1, 0, "\x00"},
		{"", 1, 255, "\xff"},
		{"", 1, 256, "\x00"},
		{"", 2, 1, "\x01\x00"},
		{"", 2, 0x1234, "\x34\x12"},
		{"", 2, 0x91234, "\x34\x12"},
		{"", 3, 1, "\x01\x00\x00"},
		{"", 4, 1, "\x01\x00\x00\x00"},
		{"", 4, 0x12345678, "\x78\x56\x34\x12"},
		{"", 4, 0xfedcba98, "\x98\xba\xdc\xfe"},
		{"", 4, 0x912345678, "\x78\x56\x34\x12"},
		{"", 1, -1, "\xff"},
		{"", 2, -2, "\xfe\xff"},
		{"", 2, -32768, "\x00\x80"},
		{"", 3, -66051, "\xfd\xfd\xfe"},
		{"", 4, -1, "\xff\xff\xff\xff"},
		{"", 4, math.MinInt, "\x00\x00\x00\x00"},
		{"", 4, math.MaxInt, "\xff\xff\xff\xff"},
		{"ab", 2, 0x4443, "abCD"},
	} {
		if got := Put([]byte(x.ahead), x.n, x.v); string(got) != x.want {
			t.Errorf("Put(%q, %d, %d) is %x, not %x", x.ahead, x.n, x.v, got, x.want)
		}
	}
	if got := Put(nil, 3, 66051); string(got) != "\x03\x02\x01" {
		t.Errorf("Put behind nothing is %x", got)
	}
}

// TestPutByDivision holds each byte against what divisions have of a number
// that isn't below 0.
func TestPutByDivision(t *testing.T) {
	c := chance(17)
	for range 5000 {
		v := c.below(1 << (1 + c.below(33)))
		for n := 1; n <= 4; n++ {
			var want []byte
			for rest := v; len(want) < n; rest /= 256 {
				want = append(want, byte(rest%256))
			}
			if got := Put([]byte("ahead"), n, v); !bytes.Equal(got, append([]byte("ahead"), want...)) {
				t.Fatalf("Put of %d bytes of %d is %x behind 'ahead', not %x", n, v, got, want)
			}
		}
	}
}

// noLengths are those that no number has.
func noLengths() []int {
	return []int{0, -1, -2, -4, math.MinInt, 5, 6, 8, 9, 256, 257, 1 << 32, 1<<32 + 1, math.MaxInt}
}

func TestPutOfOtherLengths(t *testing.T) {
	for _, n := range noLengths() {
		for _, ahead := range []string{"", "ab", "abcdefgh"} {
			if got := Put([]byte(ahead), n, 66051); string(got) != ahead {
				t.Errorf("Put(%q, %d, ..) is %x", ahead, n, got)
			}
		}
		if got := Put(nil, n, 66051); len(got) != 0 {
			t.Errorf("Put of %d bytes behind nothing is %x", n, got)
		}
	}
}

// TestPutIsAppend has Put do to what is handed in what append does: what it
// holds stays, room behind it is used.
func TestPutIsAppend(t *testing.T) {
	for n := 1; n <= 4; n++ {
		room := []byte("abcdefgh")
		got := Put(room[:2], n, 0x34333231)
		if &got[0] != &room[0] || string(room) != "ab"+"1234"[:n]+"abcdefgh"[2+n:] {
			t.Errorf("with room behind, of %d bytes: %q", n, room)
		}
		full := slices.Clip([]byte("abcdefgh")[:2])
		got = Put(full, n, 0x34333231)
		if got[0] = 'x'; string(full) != "ab" || string(got[1:]) != "b"+"1234"[:n] {
			t.Errorf("without room behind, of %d bytes: %q, %q", n, full, got)
		}
	}
}
