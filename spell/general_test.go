package spell

import (
	"slices"
	"strconv"
	"testing"

	"squeal/api"
)

// symsOf is so many symbols of so many pulses.
func symsOf(many, long int) []api.Sym {
	var l []api.Sym
	for range many {
		l = append(l, api.Sym{Pulses: make([]int, long)})
	}
	return l
}

// withReps is a generalised block of Reps alone.
func withReps(pilots, long int, reps ...api.Rep) api.Block {
	return api.Block{ID: 25, Pilot: long, Sync1: pilots % 256, Pilots: symsOf(pilots, long), Reps: reps}
}

// withData is a generalised block of Data alone.
func withData(syms, long, count int, data []byte) api.Block {
	return api.Block{ID: 25, Zero: long, One: syms % 256, Syms: symsOf(syms, long), Count: count, Data: data}
}

// bitsOf is the fewest bits that tell one of n, as the document's words have it.
func bitsOf(n int) int {
	bits := 0
	for n > 1<<bits {
		bits++
	}
	return bits
}

// dataOf is symbols of so many bits each, up to whole bytes; what is left of the
// last one is filled with one bit.
func dataOf(bits int, fill uint8, l ...int) []byte {
	var signs []uint8
	for _, x := range l {
		for i := bits - 1; i >= 0; i-- {
			signs = append(signs, uint8(x>>i&1))
		}
	}
	for len(signs)%8 != 0 {
		signs = append(signs, fill)
	}
	var b []byte
	for ; len(signs) > 0; signs = signs[8:] {
		var v uint8
		for _, sign := range signs[:8] {
			v = 2*v + sign
		}
		b = append(b, v)
	}
	return b
}

func TestHowManySymbols(t *testing.T) {
	for said := range 256 {
		right := said
		if said == 0 {
			right = 256
		}
		for _, many := range []int{0, 1, right - 1, right, right + 1, 255, 256, 257} {
			b := withReps(many, 1, api.Rep{Times: 1})
			b.Sync1 = said
			checkMay(t, strconv.Itoa(many)+" Pilots", b, many == right)
			n := (3*bitsOf(right) + 7) / 8
			b = withData(many, 1, 3, make([]byte, n))
			b.One = said
			checkMay(t, strconv.Itoa(many)+" Syms", b, many == right)
		}
	}
}

func TestNeither(t *testing.T) {
	for _, many := range []int{1, 2, 256} {
		b := withReps(many, 2)
		checkMay(t, "Pilots without Reps", b, false)
		b.Pilots = nil
		checkMay(t, "neither Pilots nor Reps", b, true)
		b.Pilots = []api.Sym{}
		b.Reps = []api.Rep{}
		checkMay(t, "neither Pilots nor Reps", b, true)
		b.Reps = make([]api.Rep, 1)
		checkMay(t, "Reps without Pilots", b, false)
		b = withData(many, 2, 0, nil)
		checkMay(t, "Syms without a Count", b, false)
		b.Data = []byte{0}
		checkMay(t, "Syms and Data without a Count", b, false)
		b.Syms = nil
		checkMay(t, "Data without a Count", b, false)
		b.Data = []byte{}
		checkMay(t, "neither Syms nor Data", b, true)
	}
	// A Count that tells no symbol at all has nothing either.
	checkMay(t, "a Count without Syms", api.Block{ID: 25, Count: 1}, false)
	checkMay(t, "a Count without Syms", api.Block{ID: 25, Count: 1, One: 1}, false)
	both := withReps(3, 1, api.Rep{Sym: 2, Times: 9})
	checkMay(t, "Reps alone", both, true)
	both.Zero, both.One, both.Count, both.Syms, both.Data = 2, 2, 9, symsOf(2, 2), []byte{1, 2}
	checkMay(t, "both", both, true)
	both.Reps = nil
	checkMay(t, "Pilots without Reps beside Data", both, false)
	both.Pilots = nil
	checkMay(t, "Data alone", both, true)
}

func TestPulsesOfSymbols(t *testing.T) {
	for _, long := range []int{0, 1, 2, 127, 128, 254, 255} {
		for _, many := range []int{1, 2, 5} {
			for place := range many {
				for _, n := range []int{0, long - 1, long, long + 1, 255, 256} {
					if n < 0 {
						continue
					}
					b := withReps(many, long, api.Rep{})
					b.Pilots[place].Pulses = make([]int, n)
					checkMay(t, "a Pilot's pulses", b, n == long)
					b = withData(many, long, 1, make([]byte, min(bitsOf(many), 1)))
					b.Syms[place].Pulses = make([]int, n)
					checkMay(t, "a symbol's pulses", b, n == long)
				}
			}
		}
	}
}

func TestNumbersOfSymbols(t *testing.T) {
	for _, v := range edges() {
		for place := range 3 {
			b, d := withReps(3, 2, api.Rep{}), withData(3, 2, 1, []byte{0})
			b.Pilots[place].Kind, d.Syms[place].Kind = v, v
			checkMay(t, "a Pilot's Kind", b, v >= 0 && v <= 255)
			checkMay(t, "a symbol's Kind", d, v >= 0 && v <= 255)
			for pulse := range 2 {
				b, d = withReps(3, 2, api.Rep{}), withData(3, 2, 1, []byte{0})
				b.Pilots[place].Pulses[pulse], d.Syms[place].Pulses[pulse] = v, v
				checkMay(t, "a Pilot's pulse", b, v >= 0 && v <= 65535)
				checkMay(t, "a symbol's pulse", d, v >= 0 && v <= 65535)
			}
			reps := make([]api.Rep, 3)
			reps[place].Times = v
			checkMay(t, "a Rep's Times", withReps(3, 2, reps...), v >= 0 && v <= 65535)
			reps[place] = api.Rep{Sym: v}
			checkMay(t, "a Rep's Sym", withReps(3, 2, reps...), v >= 0 && v < 3)
			checkMay(t, "a Rep's Sym of 256", withReps(256, 0, reps...), v >= 0 && v < 256)
		}
		b := withReps(1, 1, api.Rep{})
		for _, name := range []string{"Pilot", "Sync1"} {
			d := b
			setNumber(&d, name, v)
			checkMay(t, name, d, v == 1)
		}
		b = withData(1, 1, 1, nil)
		for _, name := range []string{"Zero", "One"} {
			d := b
			setNumber(&d, name, v)
			checkMay(t, name, d, v == 1)
		}
		// Symbols of no bits may be as many as four bytes tell.
		b.Count = v
		checkMay(t, "Count", b, v >= 1 && v <= 1<<32-1)
	}
	for pilots := 1; pilots <= 256; pilots++ {
		for _, sym := range []int{pilots - 1, pilots, pilots + 1} {
			checkMay(t, "a Rep's Sym", withReps(pilots, 0, api.Rep{Times: 1}, api.Rep{Sym: sym, Times: 2}), sym < pilots)
		}
	}
}

func TestHowManyReps(t *testing.T) {
	all := make([]api.Rep, 1<<20+1)
	for _, n := range []int{1, 2, 255, 256, 65535, 65536, 1<<20 - 1, 1 << 20, 1<<20 + 1} {
		checkMay(t, strconv.Itoa(n)+" Reps", withReps(1, 0, all[:n]...), n <= 1<<20)
	}
	// More bytes than a file has are told when all blocks may be.
	checkRefused(t, "many Reps", api.Tape{Blocks: []api.Block{withReps(1, 0, all[:1<<20]...)}}, -1, api.ErrLong)
	checkRefused(t, "too many Reps", api.Tape{Blocks: []api.Block{withReps(1, 0, all...)}}, 0, api.ErrArg)
}

func TestHowMuchData(t *testing.T) {
	for _, syms := range []int{1, 2, 3, 4, 5, 8, 9, 16, 17, 32, 33, 64, 65, 128, 129, 255, 256} {
		for count := range 40 {
			right := (count*bitsOf(syms) + 7) / 8
			for n := range right + 3 {
				b := withData(syms, 1, count, make([]byte, n))
				if count == 0 {
					b.Syms = nil
				}
				checkMay(t, strconv.Itoa(n)+" bytes of Data", b, n == right)
			}
		}
	}
	// As many bytes as there may be, and more.
	all := make([]byte, 1<<20+1)
	for _, x := range []struct{ syms, count int }{{2, 1 << 23}, {4, 1 << 22}, {16, 1 << 21}, {256, 1 << 20}} {
		checkMay(t, "Data of 1,048,576 bytes", withData(x.syms, 0, x.count, all[:1<<20]), true)
		checkMay(t, "Data of 1,048,577 bytes", withData(x.syms, 0, x.count+1, all), false)
		checkMay(t, "Data of 1,048,576 bytes, too few", withData(x.syms, 0, x.count+1, all[:1<<20]), false)
	}
	checkRefused(t, "Data of 1,048,576 bytes", api.Tape{Blocks: []api.Block{withData(2, 0, 1<<23, all[:1<<20])}}, -1, api.ErrLong)
}

// TestDataOfNoSymbol has each of some symbols be each one that its bits tell.
func TestDataOfNoSymbol(t *testing.T) {
	for syms := 1; syms <= 256; syms++ {
		bits := bitsOf(syms)
		for _, count := range []int{1, 2, 3, 7, 8, 9, 11} {
			l := make([]int, count)
			for i := range l {
				l[i] = (syms - 1) * (i % 2)
			}
			for _, fill := range []uint8{0, 1} {
				checkMay(t, "symbols", withData(syms, 1, count, dataOf(bits, fill, l...)), true)
			}
			for sym := max(syms-2, 0); sym < 1<<bits; sym += 1 + max(sym-syms, 0)/2 {
				place := (sym + count) % count
				wrong := slices.Clone(l)
				wrong[place] = sym
				checkMay(t, "a symbol", withData(syms, 1, count, dataOf(bits, 0, wrong...)), sym < syms)
				wrong[place], wrong[count-1] = l[place], sym
				checkMay(t, "the last symbol", withData(syms, 1, count, dataOf(bits, 1, wrong...)), sym < syms)
			}
		}
	}
}
