package inflate

import "squeal/api"

const (
	blockEnd     = 256 // the symbol
	lastLength   = 285 // the last symbol that is a length
	lastDistance = 29
)

// symbols unpacks the symbols of a block up to its end.
func (u *unpacker) symbols(c codes) api.Errno {
	for {
		symbol, e := c.symbols.Next(u.bits)
		if e != api.OK || symbol == blockEnd {
			return e
		}
		if symbol < blockEnd {
			e = u.put(byte(symbol))
		} else {
			e = u.back(c, symbol)
		}
		if e != api.OK {
			return e
		}
	}
}

// put puts one byte behind.
func (u *unpacker) put(b byte) api.Errno {
	if !u.room(1) {
		return api.ErrLong
	}
	u.out = append(u.out, b)
	return api.OK
}

// back copies as many bytes as a symbol above the block's end says.
func (u *unpacker) back(c codes, symbol int) api.Errno {
	length, e := u.length(symbol)
	if e != api.OK {
		return e
	}
	distance, e := u.distance(c)
	if e != api.OK {
		return e
	}
	if distance > len(u.out) {
		return api.ErrForm
	}
	if !u.room(length) {
		return api.ErrLong
	}
	from := len(u.out) - distance
	for i := range length { // one by one: a copy may go on with what it put behind itself
		u.out = append(u.out, u.out[from+i])
	}
	return api.OK
}

// length is how many bytes a symbol says, with its bits more.
func (u *unpacker) length(symbol int) (int, api.Errno) {
	if symbol > lastLength {
		return 0, api.ErrForm
	}
	if symbol == lastLength {
		return 258, api.OK
	}
	n, e := u.stretched(symbol-blockEnd-1, 4)
	if e != api.OK {
		return 0, e
	}
	return 3 + n, api.OK
}

// distance takes how far back a copy begins.
func (u *unpacker) distance(c codes) (int, api.Errno) {
	symbol, e := c.distances.Next(u.bits)
	if e != api.OK {
		return 0, e
	}
	if symbol > lastDistance {
		return 0, api.ErrForm
	}
	n, e := u.stretched(symbol, 2)
	if e != api.OK {
		return 0, e
	}
	return 1 + n, api.OK
}

// stretched is the number that k stands for, from 0 on: the first two times
// each have no bits more, then each have 1, each have 2, and so on.
func (u *unpacker) stretched(k, each int) (int, api.Errno) {
	bits := max(k/each-1, 0)
	more, e := u.take(bits)
	if e != api.OK {
		return 0, e
	}
	return (k-each*bits)<<bits + more, api.OK
}
