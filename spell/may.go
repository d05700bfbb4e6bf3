package spell

import (
	"squeal/api"
	"squeal/tzx"
)

// The IDs of blocks that have parts of their own. All others have a length and
// bytes.
const (
	usual     = 16
	turbo     = 17
	tone      = 18
	pulses    = 19
	bare      = 20
	samples   = 21
	packed    = 24
	general   = 25
	silence   = 32
	group     = 33
	groupEnd  = 34
	jump      = 35
	loop      = 36
	loopEnd   = 37
	call      = 38
	callEnd   = 39
	choice    = 40
	stop      = 42
	level     = 43
	text      = 48
	message   = 49
	about     = 50
	hardware  = 51
	emulation = 52
	custom    = 53
	glue      = 90
)

const (
	// choiceN and aboutN are how many bytes the number of an item has.
	choiceN = 2
	aboutN  = 1
	// triple is how many numbers a piece of hardware has.
	triple = 3
	// emulationSize, customName and glueSize are how many bytes there are,
	// since no length tells it.
	emulationSize = 8
	customName    = 16
	glueSize      = 9
)

// May tells whether a block may be.
func May(b api.Block) bool {
	return fit(1, b.ID) && numbers(b) == numbers(named(b)) && fits(b)
}

// named is what the document's table names of a block.
func named(b api.Block) api.Block {
	switch b.ID {
	case usual:
		return api.Block{ID: b.ID, Pause: b.Pause, Data: b.Data}
	case turbo:
		return api.Block{
			ID: b.ID, Pilot: b.Pilot, Sync1: b.Sync1, Sync2: b.Sync2, Zero: b.Zero, One: b.One,
			Count: b.Count, Used: b.Used, Pause: b.Pause, Data: b.Data,
		}
	case tone:
		return api.Block{ID: b.ID, Tone: b.Tone, Count: b.Count}
	case pulses, jump, call, hardware:
		return api.Block{ID: b.ID, Times: b.Times}
	case bare:
		return api.Block{ID: b.ID, Zero: b.Zero, One: b.One, Used: b.Used, Pause: b.Pause, Data: b.Data}
	case samples:
		return api.Block{ID: b.ID, Rate: b.Rate, Pause: b.Pause, Used: b.Used, Data: b.Data}
	case packed:
		return api.Block{ID: b.ID, Pause: b.Pause, Rate: b.Rate, Pack: b.Pack, Count: b.Count, Data: b.Data}
	case general:
		return api.Block{
			ID: b.ID, Pause: b.Pause, Pilot: b.Pilot, Sync1: b.Sync1, Count: b.Count, Zero: b.Zero, One: b.One,
			Pilots: b.Pilots, Reps: b.Reps, Syms: b.Syms, Data: b.Data,
		}
	case silence:
		return api.Block{ID: b.ID, Pause: b.Pause}
	case groupEnd, loopEnd, callEnd, stop:
		return api.Block{ID: b.ID}
	case loop:
		return api.Block{ID: b.ID, Count: b.Count}
	case choice, about:
		return api.Block{ID: b.ID, Items: b.Items}
	case level:
		return api.Block{ID: b.ID, Used: b.Used}
	case message:
		return api.Block{ID: b.ID, Count: b.Count, Data: b.Data}
	case custom:
		return api.Block{ID: b.ID, Items: b.Items, Data: b.Data}
	}
	return api.Block{ID: b.ID, Data: b.Data}
}

// fits tells whether what the table names of a block fits the bytes that it has
// there.
func fits(b api.Block) bool {
	switch b.ID {
	case usual:
		return fit(2, b.Pause, len(b.Data))
	case turbo:
		return fit(2, b.Pilot, b.Sync1, b.Sync2, b.Zero, b.One, b.Count, b.Pause) &&
			fit(1, b.Used) && fit(3, len(b.Data))
	case tone:
		return fit(2, b.Tone, b.Count)
	case pulses:
		return fit(1, len(b.Times)) && fit(2, b.Times...)
	case bare:
		return fit(2, b.Zero, b.One, b.Pause) && fit(1, b.Used) && fit(3, len(b.Data))
	case samples:
		return fit(2, b.Rate, b.Pause) && fit(1, b.Used) && fit(3, len(b.Data))
	case packed:
		return fit(2, b.Pause) && fit(3, b.Rate) && fit(1, b.Pack) && fit(4, b.Count) && len(b.Data) <= api.MaxTape
	case general:
		return generalFits(b)
	case silence:
		return fit(2, b.Pause)
	case group, text:
		return fit(1, len(b.Data))
	case jump:
		return len(b.Times) == 1 && fitSigned(b.Times...)
	case loop:
		return fit(2, b.Count)
	case call:
		return fit(2, len(b.Times)) && fitSigned(b.Times...)
	case choice:
		return itemsFit(choiceN, b.Items) && fitSigned(eachN(b.Items)...)
	case level:
		return b.Used == 0 || b.Used == 1
	case message:
		return fit(1, b.Count, len(b.Data))
	case about:
		return itemsFit(aboutN, b.Items) && fit(aboutN, eachN(b.Items)...)
	case hardware:
		return len(b.Times)%triple == 0 && fit(1, len(b.Times)/triple) && fit(1, b.Times...)
	case emulation:
		return len(b.Data) == emulationSize
	case custom:
		return len(b.Items) == 1 && b.Items[0].N == 0 && len(b.Items[0].Text) == customName &&
			len(b.Data) <= api.MaxTape
	case glue:
		return len(b.Data) == glueSize && string(b.Data[:len(glued)]) == glued
	}
	return len(b.Data) <= api.MaxTape
}

// fit tells whether all numbers fit n bytes, without a sign.
func fit(n int, l ...int) bool {
	for _, v := range l {
		// A number below 0 is a very great one here.
		if uint64(v)>>(8*n) != 0 {
			return false
		}
	}
	return true
}

// fitSigned tells whether all numbers fit two bytes, with a sign.
func fitSigned(l ...int) bool {
	for _, v := range l {
		if int(int16(v)) != v {
			return false
		}
	}
	return true
}

// itemsFit tells whether items fit their count, their texts' lengths, and the
// length of all together, if their numbers have n bytes.
func itemsFit(n int, l []api.Item) bool {
	size := 1
	for _, x := range l {
		if !fit(1, len(x.Text)) {
			return false
		}
		size += n + 1 + len(x.Text)
	}
	return fit(1, len(l)) && fit(2, size)
}

// eachN is the number of each item.
func eachN(l []api.Item) []int {
	var out []int
	for _, x := range l {
		out = append(out, x.N)
	}
	return out
}

// generalFits tells whether a generalised block has what its numbers say.
func generalFits(b api.Block) bool {
	return fit(2, b.Pause) && fit(4, b.Count) && fit(1, b.Pilot, b.Sync1, b.Zero, b.One) &&
		repsFit(b) && streamFits(b)
}

// repsFit tells whether the repeated symbols of a generalised block may be.
func repsFit(b api.Block) bool {
	if len(b.Reps) == 0 {
		return len(b.Pilots) == 0
	}
	many := tzx.Many(b.Sync1)
	if len(b.Reps) > api.MaxTape || !symbolsFit(b.Pilots, many, b.Pilot) {
		return false
	}
	for _, r := range b.Reps {
		if r.Sym < 0 || r.Sym >= many || !fit(2, r.Times) {
			return false
		}
	}
	return true
}

// streamFits tells whether the symbols of a generalised block, and its bytes
// that are told by them, may be.
func streamFits(b api.Block) bool {
	if b.Count == 0 {
		return len(b.Syms) == 0 && len(b.Data) == 0
	}
	many := tzx.Many(b.One)
	size := (b.Count*tzx.Bits(many) + 7) / 8
	return symbolsFit(b.Syms, many, b.Zero) &&
		len(b.Data) == size && size <= api.MaxTape && below(b.Data, b.Count, many)
}

// symbolsFit tells whether there are so many symbols, each of so many pulses.
func symbolsFit(l []api.Sym, many, long int) bool {
	if len(l) != many {
		return false
	}
	for _, s := range l {
		if !fit(1, s.Kind) || len(s.Pulses) != long || !fit(2, s.Pulses...) {
			return false
		}
	}
	return true
}

// below tells whether each of the count symbols that data has is one of so many.
func below(data []byte, count, many int) bool {
	bits := tzx.Bits(many)
	// All that so many bits can tell are symbols: of no bits there may be far
	// too many to be gone through.
	if many == 1<<bits {
		return true
	}
	for i := range count {
		if s, _ := tzx.Symbol(data, bits, i); s >= many {
			return false
		}
	}
	return true
}
