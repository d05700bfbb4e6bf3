package wire

import (
	"slices"

	"squeal/api"
)

// Reader reads numbers and bytes, up to its first fault.
type Reader struct {
	bytes []byte
	at    int
	fault Fault // none, as long as its class is OK
}

// Read stands ahead of the first byte of b.
func Read(b []byte) *Reader {
	return &Reader{bytes: slices.Clone(b)}
}

// Bad tells whether there is a fault.
func (r *Reader) Bad() bool {
	return r != nil && r.fault.E != api.OK
}

// Fail is a fault, if it is the first one.
func (r *Reader) Fail(e api.Errno, at int) {
	if r != nil && !r.Bad() && e != api.OK {
		r.fault = Fault{e, at}
	}
}

// At is the place up to which bytes were read.
func (r *Reader) At() int {
	if r == nil {
		return 0
	}
	return r.at
}

// Left is how many bytes are left to read.
func (r *Reader) Left() int {
	if r == nil || r.Bad() {
		return 0
	}
	return len(r.bytes) - r.at
}

// Number is the number of the next n bytes.
func (r *Reader) Number(n int) int {
	if !mayBe(n) {
		r.Fail(api.ErrArg, r.At())
		return 0
	}
	return number(r.next(n))
}

// Signed is the number of the next two bytes, with a sign.
func (r *Reader) Signed() int {
	return int(int16(r.Number(2)))
}

// Take is the next n bytes.
func (r *Reader) Take(n int) []byte {
	if n < 0 {
		r.Fail(api.ErrArg, r.At())
		return nil
	}
	return slices.Clone(r.next(n))
}

// Numbers is so many numbers of n bytes each, or none, if one is missing.
func (r *Reader) Numbers(many, n int) []int {
	// Too few bytes are told first, also of an n that may not be.
	if n > 0 && r.Left()/n < many {
		r.Fail(api.ErrEnd, r.At())
	}
	if many < 0 || !mayBe(n) {
		r.Fail(api.ErrArg, r.At())
	}
	if r == nil || r.Bad() {
		return nil
	}
	l := make([]int, many)
	for i := range l {
		l[i] = r.Number(n)
	}
	return l
}

// End is the first fault, also that bytes are left.
func (r *Reader) End() error {
	if r.Bad() {
		// Each answer is a fault of its own: who has one may change it.
		f := r.fault
		return &f
	}
	if r.Left() > 0 {
		return &Fault{api.ErrForm, r.At()}
	}
	return nil
}

// next goes on behind the next n bytes, and is these where they stand; it is
// nothing, if there are fewer.
func (r *Reader) next(n int) []byte {
	if r.Left() < n {
		r.Fail(api.ErrEnd, r.At())
	}
	if r == nil || r.Bad() {
		return nil
	}
	from := r.at
	r.at += n
	return r.bytes[from:r.at]
}
