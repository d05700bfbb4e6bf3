package tzx

import "math/bits"

// widest is how many bits a symbol has at most.
const widest = 8

// Bits is the fewest bits that tell one of n.
func Bits(n int) int {
	if n < 2 {
		return 0
	}
	return bits.Len(uint(n - 1))
}

// Many is how many symbols a byte of n tells.
func Many(n int) int {
	if n == 0 {
		return 256
	}
	return n
}

// Symbol is symbol i of data, if it is there, of symbols of so many bits.
func Symbol(data []byte, bits, i int) (int, bool) {
	if bits < 0 || bits > widest || i < 0 {
		return 0, false
	}
	if bits == 0 {
		return 0, true
	}
	// How many there are is held against i, since i times bits may be too great.
	if i >= len(data)*8/bits {
		return 0, false
	}
	place, first := i*bits/8, i*bits%8
	two := int(data[place]) << 8
	if first+bits > 8 {
		two |= int(data[place+1])
	}
	return two >> (16 - first - bits) & (1<<bits - 1), true
}

// below tells whether all of the count symbols that data has are one of so many.
func below(data []byte, count, many int) bool {
	n := Bits(many)
	// All that so many bits can tell are symbols: of no bits there may be far
	// too many to be gone through.
	if many == 1<<n {
		return true
	}
	for i := range count {
		if sym, _ := Symbol(data, n, i); sym >= many {
			return false
		}
	}
	return true
}
