package spell

import (
	"slices"

	"squeal/api"
	"squeal/wire"
)

// parts is what stands behind the ID of a block that may be.
func parts(b api.Block) []byte {
	switch b.ID {
	case usual:
		return slices.Concat(put(2, b.Pause), measured(2, b.Data))
	case turbo:
		timing := put(2, b.Pilot, b.Sync1, b.Sync2, b.Zero, b.One)
		return slices.Concat(timing, put(2, b.Count), put(1, b.Used), put(2, b.Pause), measured(3, b.Data))
	case tone:
		return put(2, b.Tone, b.Count)
	case pulses:
		return slices.Concat(put(1, len(b.Times)), put(2, b.Times...))
	case bare:
		return slices.Concat(put(2, b.Zero, b.One), put(1, b.Used), put(2, b.Pause), measured(3, b.Data))
	case samples:
		return slices.Concat(put(2, b.Rate, b.Pause), put(1, b.Used), measured(3, b.Data))
	case packed:
		return measured(4, put(2, b.Pause), put(3, b.Rate), put(1, b.Pack), put(4, b.Count), b.Data)
	case general:
		return measured(4, generalParts(b))
	case silence:
		return put(2, b.Pause)
	case group, text:
		return measured(1, b.Data)
	case groupEnd, loopEnd, callEnd:
		return nil
	case jump:
		return put(2, b.Times...)
	case loop:
		return put(2, b.Count)
	case call:
		return slices.Concat(put(2, len(b.Times)), put(2, b.Times...))
	case choice:
		return measured(2, items(choiceN, b.Items))
	case level:
		return measured(4, put(1, b.Used))
	case message:
		return slices.Concat(put(1, b.Count), measured(1, b.Data))
	case about:
		return measured(2, items(aboutN, b.Items))
	case hardware:
		return slices.Concat(put(1, len(b.Times)/triple), put(1, b.Times...))
	case emulation, glue:
		return b.Data
	case custom:
		return slices.Concat(b.Items[0].Text, measured(4, b.Data))
	}
	// Of a stop, too: its four bytes are the length of no bytes.
	return measured(4, b.Data)
}

// put is numbers of n bytes each.
func put(n int, l ...int) []byte {
	var out []byte
	for _, v := range l {
		out = wire.Put(out, n, v)
	}
	return out
}

// measured is bytes with their length, of n bytes, ahead.
func measured(n int, l ...[]byte) []byte {
	rest := slices.Concat(l...)
	return slices.Concat(put(n, len(rest)), rest)
}

// items is a count, and items, of which the numbers have n bytes.
func items(n int, l []api.Item) []byte {
	out := put(1, len(l))
	for _, x := range l {
		out = slices.Concat(out, put(n, x.N), measured(1, x.Text))
	}
	return out
}

// generalParts is what stands behind the length of a generalised block.
func generalParts(b api.Block) []byte {
	out := slices.Concat(put(2, b.Pause),
		put(4, len(b.Reps)), put(1, b.Pilot, b.Sync1),
		put(4, b.Count), put(1, b.Zero, b.One),
		symbols(b.Pilots))
	for _, r := range b.Reps {
		out = wire.Put(wire.Put(out, 1, r.Sym), 2, r.Times)
	}
	return slices.Concat(out, symbols(b.Syms), b.Data)
}

// symbols is symbols, one behind the other.
func symbols(l []api.Sym) []byte {
	var out []byte
	for _, s := range l {
		out = append(wire.Put(out, 1, s.Kind), put(2, s.Pulses...)...)
	}
	return out
}
