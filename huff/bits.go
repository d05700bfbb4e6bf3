package huff

import "slices"

// mostTaken is how many bits are taken at one time at most.
const mostTaken = 24

// Bits reads bits, the lowest one of each byte first.
type Bits struct {
	bytes []byte
	taken int // how many bits
}

// Read stands ahead of the first bit of b.
func Read(b []byte) *Bits {
	return &Bits{bytes: slices.Clone(b)}
}

// Take takes n bits, the first one the lowest of their number.
func (r *Bits) Take(n int) (int, bool) {
	if r == nil || n < 0 || n > mostTaken || n > 8*len(r.bytes)-r.taken {
		return 0, false
	}
	v := 0
	for got := 0; got < n; {
		inByte := r.taken % 8
		some := min(8-inByte, n-got)
		part := int(r.bytes[r.taken/8]) >> inByte & (1<<some - 1)
		v |= part << got
		got += some
		r.taken += some
	}
	return v, true
}

// Align goes on to a whole byte, if it doesn't stand at one.
func (r *Bits) Align() {
	if r != nil {
		r.taken = 8 * r.At()
	}
}

// Bytes aligns and takes n bytes; where it can't, it doesn't align either.
func (r *Bits) Bytes(n int) ([]byte, bool) {
	if r == nil || n < 0 || n > len(r.bytes)-r.At() {
		return nil, false
	}
	r.Align()
	from := r.taken / 8
	r.taken += 8 * n
	return slices.Clone(r.bytes[from : from+n]), true
}

// At is how many bytes were begun.
func (r *Bits) At() int {
	if r == nil {
		return 0
	}
	return (r.taken + 7) / 8
}
