package inflate

import (
	"squeal/api"
	"squeal/huff"
)

const (
	mostSymbols   = 286 // that a block of Kind 2 tells lengths of
	mostDistances = 30
	lengthSymbols = 19 // that lengths are told by
)

// lengthOrder is the order in which the lengths of lengths are told.
var lengthOrder = [lengthSymbols]int{16, 17, 18, 0, 8, 7, 9, 6, 10, 5, 11, 4, 12, 3, 13, 2, 14, 1, 15}

// codes are those of a block's symbols and distances.
type codes struct {
	symbols, distances *huff.Table
}

// newCodes are codes by two rows of lengths, if both may be.
func newCodes(symbols, distances []int) (codes, api.Errno) {
	s, e := huff.New(symbols)
	if e != api.OK {
		return codes{}, e
	}
	d, e := huff.New(distances)
	if e != api.OK {
		return codes{}, e
	}
	return codes{symbols: s, distances: d}, api.OK
}

// fixedCodes are those of Kind 1. They have symbols and distances that may not
// be used, without which the codes wouldn't be enough.
func fixedCodes() codes {
	var symbols [288]int
	for symbol := range symbols {
		switch {
		case symbol <= 143:
			symbols[symbol] = 8
		case symbol <= 255:
			symbols[symbol] = 9
		case symbol <= 279:
			symbols[symbol] = 7
		default:
			symbols[symbol] = 8
		}
	}
	var distances [32]int
	for symbol := range distances {
		distances[symbol] = 5
	}
	c, _ := newCodes(symbols[:], distances[:]) // both are just enough
	return c
}

// toldCodes are those that a block of Kind 2 tells ahead of its symbols.
func (u *unpacker) toldCodes() (codes, api.Errno) {
	symbols, e := u.count(5, 257, mostSymbols)
	if e != api.OK {
		return codes{}, e
	}
	distances, e := u.count(5, 1, mostDistances)
	if e != api.OK {
		return codes{}, e
	}
	lengths, e := u.count(4, 4, lengthSymbols)
	if e != api.OK {
		return codes{}, e
	}
	by, e := u.lengthCodes(lengths)
	if e != api.OK {
		return codes{}, e
	}
	var r row
	if e := u.fill(&r, by, symbols+distances); e != api.OK {
		return codes{}, e
	}
	if r.lengths[blockEnd] == 0 {
		return codes{}, api.ErrForm
	}
	return newCodes(r.lengths[:symbols], r.lengths[symbols:r.n])
}

// count takes n bits: how many there are more than least, which may be most.
func (u *unpacker) count(n, least, most int) (int, api.Errno) {
	v, e := u.take(n)
	if e != api.OK {
		return 0, e
	}
	if least+v > most {
		return 0, api.ErrForm
	}
	return least + v, api.OK
}

// lengthCodes are the codes that lengths are told by; n of them are told.
func (u *unpacker) lengthCodes(n int) (*huff.Table, api.Errno) {
	var lengths [lengthSymbols]int
	for i := range n {
		length, e := u.take(3)
		if e != api.OK {
			return nil, e
		}
		lengths[lengthOrder[i]] = length
	}
	return huff.New(lengths[:])
}

// row is lengths of symbols and, behind them, of distances.
type row struct {
	lengths [mostSymbols + mostDistances]int
	n       int // how many there are
}

// fill has r be many lengths.
func (u *unpacker) fill(r *row, by *huff.Table, many int) api.Errno {
	for r.n < many {
		symbol, e := by.Next(u.bits)
		if e != api.OK {
			return e
		}
		length, times, e := u.repeat(r, symbol)
		if e != api.OK {
			return e
		}
		if times > many-r.n {
			return api.ErrForm
		}
		for range times {
			r.lengths[r.n] = length
			r.n++
		}
	}
	return api.OK
}

// repeat is the length that a symbol puts behind r, and how often it does.
func (u *unpacker) repeat(r *row, symbol int) (int, int, api.Errno) {
	length, least, bits := symbol, 1, 0
	switch symbol {
	case 16:
		if r.n == 0 {
			return 0, 0, api.ErrForm
		}
		length, least, bits = r.lengths[r.n-1], 3, 2
	case 17:
		length, least, bits = 0, 3, 3
	case 18:
		length, least, bits = 0, 11, 7
	}
	more, e := u.take(bits)
	if e != api.OK {
		return 0, 0, e
	}
	return length, least + more, api.OK
}
