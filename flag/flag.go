// Package flag is layer 1: the eight bits of F, and what all layers that
// reckon ask of a byte. See shared/doc/01-flag.md.
package flag

import (
	"squeal/api"
)

// signs are the names of F's bits, from the highest one down; a bit that is 0
// is told by none in the place of its name.
const (
	signs = "SZYHXPNC"
	none  = '-'
)

// bitAt is the bit at a place, of which 0 is the highest bit's.
func bitAt(place int) uint8 {
	return api.FlagS >> place
}

// Even tells whether an even number of b's bits are 1.
func Even(b uint8) bool {
	even := true
	for place := range len(signs) {
		if Has(b, bitAt(place)) {
			even = !even
		}
	}
	return even
}

// Of is S, Z, Y and X of b.
func Of(b uint8) uint8 {
	return With(b&(api.FlagS|api.FlagY|api.FlagX), api.FlagZ, b == 0)
}

// OfP is S, Z, Y, X of b, and P, if b is even.
func OfP(b uint8) uint8 {
	return With(Of(b), api.FlagP, Even(b))
}

// With is f with all bits of bit 1, if on, or else 0.
func With(f uint8, bit uint8, on bool) uint8 {
	if on {
		return f | bit
	}
	return f &^ bit
}

// Has tells whether one of the bits of bit is 1 in f.
func Has(f uint8, bit uint8) bool {
	return f&bit != 0
}

// Cond tells whether f meets the condition k of NZ, Z, NC, C, PO, PE, P, M.
func Cond(f uint8, k int) bool {
	if k < 0 || k > 7 {
		return false
	}
	// Two conditions ask for one bit: the first that it is 0, the second that it is 1.
	asked := [4]uint8{api.FlagZ, api.FlagC, api.FlagP, api.FlagS}
	return Has(f, asked[k/2]) == (k%2 == 1)
}

// Show is f as eight signs.
func Show(f uint8) string {
	var told [len(signs)]byte
	for place := range told {
		told[place] = none
		if Has(f, bitAt(place)) {
			told[place] = signs[place]
		}
	}
	return string(told[:])
}

// Read is the byte whose Show is s.
func Read(s string) (uint8, api.Errno) {
	if len(s) != len(signs) {
		return 0, api.ErrForm
	}
	var f uint8
	// A sign of more than one byte is refused on the spot, so that up to there
	// the place of a byte is the place of a sign.
	for place, sign := range s {
		switch sign {
		case rune(signs[place]):
			f |= bitAt(place)
		case none:
		default:
			return 0, api.ErrForm
		}
	}
	return f, api.OK
}
