package spell

import (
	"bytes"
	"slices"

	"squeal/api"
)

// Same tells whether all parts of two tapes are the same.
func Same(a, b api.Tape) bool {
	return a.Major == b.Major && a.Minor == b.Minor && slices.EqualFunc(a.Blocks, b.Blocks, sameBlock)
}

// numbers is all numbers of a block, and how long its lists are.
func numbers(b api.Block) [18]int {
	return [...]int{
		b.ID, b.Pause, b.Pilot, b.Sync1, b.Sync2, b.Zero, b.One, b.Tone, b.Count, b.Used, b.Rate, b.Pack,
		len(b.Data), len(b.Times), len(b.Items), len(b.Pilots), len(b.Syms), len(b.Reps),
	}
}

// sameBlock tells whether all parts of two blocks are the same.
func sameBlock(a, b api.Block) bool {
	return numbers(a) == numbers(b) &&
		bytes.Equal(a.Data, b.Data) &&
		slices.Equal(a.Times, b.Times) &&
		slices.EqualFunc(a.Items, b.Items, sameItem) &&
		slices.EqualFunc(a.Pilots, b.Pilots, sameSym) &&
		slices.EqualFunc(a.Syms, b.Syms, sameSym) &&
		slices.Equal(a.Reps, b.Reps)
}

func sameItem(a, b api.Item) bool {
	return a.N == b.N && bytes.Equal(a.Text, b.Text)
}

func sameSym(a, b api.Sym) bool {
	return a.Kind == b.Kind && slices.Equal(a.Pulses, b.Pulses)
}
