package tzx

import (
	"squeal/api"
	"squeal/wire"
)

// The IDs of blocks that have parts of their own. All others have a length and
// bytes.
const (
	usual     = 16
	turbo     = 17
	tone      = 18
	pulses    = 19
	bare      = 20
	samples   = 21
	packed    = 24
	general   = 25
	silence   = 32
	group     = 33
	groupEnd  = 34
	jump      = 35
	loop      = 36
	loopEnd   = 37
	call      = 38
	callEnd   = 39
	choice    = 40
	stop      = 42
	level     = 43
	text      = 48
	message   = 49
	about     = 50
	hardware  = 51
	emulation = 52
	custom    = 53
	glue      = 90
)

const (
	// packedHead is how many bytes a packed block has ahead of its Data, of
	// those that its length counts.
	packedHead = 10
	// levelLength is what a level's block tells as its length.
	levelLength = 1
	// customName is how many bytes the name of a custom block has.
	customName = 16
)

// block reads a block. The fields of a literal stand in the order of the file,
// since that is the order in which their calls are made.
func block(r *wire.Reader) api.Block {
	begin := r.At()
	id := r.Number(1)
	switch id {
	case usual:
		return api.Block{ID: id, Pause: r.Number(2), Data: data(r, 2)}
	case turbo:
		return turboBlock(r)
	case tone:
		return api.Block{ID: id, Tone: r.Number(2), Count: r.Number(2)}
	case pulses:
		return api.Block{ID: id, Times: r.Numbers(r.Number(1), 2)}
	case bare:
		return api.Block{ID: id, Zero: r.Number(2), One: r.Number(2), Used: r.Number(1), Pause: r.Number(2), Data: data(r, 3)}
	case samples:
		return api.Block{ID: id, Rate: r.Number(2), Pause: r.Number(2), Used: r.Number(1), Data: data(r, 3)}
	case packed:
		return packedBlock(r, begin)
	case general:
		return measured(r, begin, 4, func() api.Block { return generalBlock(r) })
	case silence:
		return api.Block{ID: id, Pause: r.Number(2)}
	case group, text:
		return api.Block{ID: id, Data: data(r, 1)}
	case groupEnd, loopEnd, callEnd:
		return api.Block{ID: id}
	case jump:
		return api.Block{ID: id, Times: []int{r.Signed()}}
	case loop:
		return api.Block{ID: id, Count: r.Number(2)}
	case call:
		return api.Block{ID: id, Times: list(r, r.Number(2), r.Signed)}
	case choice:
		return measured(r, begin, 2, func() api.Block { return api.Block{ID: id, Items: items(r, r.Signed)} })
	case stop:
		only(r, 0)
		return api.Block{ID: id}
	case level:
		return levelBlock(r)
	case message:
		return api.Block{ID: id, Count: r.Number(1), Data: data(r, 1)}
	case about:
		number := func() int { return r.Number(1) }
		return measured(r, begin, 2, func() api.Block { return api.Block{ID: id, Items: items(r, number)} })
	case hardware:
		return api.Block{ID: id, Times: r.Numbers(3*r.Number(1), 1)}
	case emulation:
		return api.Block{ID: id, Data: r.Take(8)}
	case custom:
		return api.Block{ID: id, Items: []api.Item{{Text: r.Take(customName)}}, Data: data(r, 4)}
	case glue:
		return glueBlock(r)
	}
	return api.Block{ID: id, Data: data(r, 4)}
}

// turboBlock reads a block of bytes that has a timing of its own.
func turboBlock(r *wire.Reader) api.Block {
	return api.Block{
		ID:    turbo,
		Pilot: r.Number(2),
		Sync1: r.Number(2),
		Sync2: r.Number(2),
		Zero:  r.Number(2),
		One:   r.Number(2),
		Count: r.Number(2),
		Used:  r.Number(1),
		Pause: r.Number(2),
		Data:  data(r, 3),
	}
}

// packedBlock reads a block of packed samples, of which the ID stands at begin.
func packedBlock(r *wire.Reader, begin int) api.Block {
	length := r.Number(4)
	b := api.Block{ID: packed, Pause: r.Number(2), Rate: r.Number(3), Pack: r.Number(1), Count: r.Number(4)}
	if length < packedHead {
		r.Fail(api.ErrForm, begin)
	}
	b.Data = r.Take(length - packedHead)
	return b
}

// generalBlock reads a generalised block behind its length.
func generalBlock(r *wire.Reader) api.Block {
	b := api.Block{ID: general, Pause: r.Number(2)}
	reps := r.Number(4)
	b.Pilot, b.Sync1 = r.Number(1), r.Number(1)
	b.Count = r.Number(4)
	b.Zero, b.One = r.Number(1), r.Number(1)
	if reps > 0 {
		b.Pilots = alphabet(r, Many(b.Sync1), b.Pilot)
		b.Reps = list(r, reps, func() api.Rep { return rep(r, Many(b.Sync1)) })
	}
	if b.Count > 0 {
		b.Syms = alphabet(r, Many(b.One), b.Zero)
		b.Data = stream(r, b.Count, Many(b.One))
	}
	return b
}

// levelBlock reads a block that sets the level.
func levelBlock(r *wire.Reader) api.Block {
	only(r, levelLength)
	at := r.At()
	b := api.Block{ID: level, Used: r.Number(1)}
	if b.Used > 1 {
		r.Fail(api.ErrForm, at)
	}
	return b
}

// glueBlock reads a block that stands between two files.
func glueBlock(r *wire.Reader) api.Block {
	at := r.At()
	b := api.Block{ID: glue, Data: r.Take(9)}
	// Without its bytes the block has a fault already, which stays.
	if len(b.Data) < len(glued) || string(b.Data[:len(glued)]) != glued {
		r.Fail(api.ErrSign, at)
	}
	return b
}

// data reads a length of n bytes, and as many bytes as it tells.
func data(r *wire.Reader, n int) []byte {
	return r.Take(r.Number(n))
}

// only reads four bytes that may be no other number.
func only(r *wire.Reader, n int) {
	at := r.At()
	if r.Number(4) != n {
		r.Fail(api.ErrForm, at)
	}
}

// measured reads a length of n bytes, and what follows, which must be as long.
// The ID of the block stands at begin.
func measured(r *wire.Reader, begin, n int, rest func() api.Block) api.Block {
	length := r.Number(n)
	from := r.At()
	b := rest()
	if r.At()-from != length {
		r.Fail(api.ErrForm, begin)
	}
	return b
}

// list reads so many things, one by one, up to a fault: there may be told far
// more of them than there are bytes.
func list[T any](r *wire.Reader, many int, one func() T) []T {
	var l []T
	for range many {
		if r.Bad() {
			return nil
		}
		l = append(l, one())
	}
	return l
}

// items reads a count and as many numbers, each with a text.
func items(r *wire.Reader, number func() int) []api.Item {
	return list(r, r.Number(1), func() api.Item {
		return api.Item{N: number(), Text: data(r, 1)}
	})
}

// alphabet reads so many symbols, each with so many pulses.
func alphabet(r *wire.Reader, many, long int) []api.Sym {
	return list(r, many, func() api.Sym {
		return api.Sym{Kind: r.Number(1), Pulses: r.Numbers(long, 2)}
	})
}

// rep reads how often a symbol comes, which must be one of so many.
func rep(r *wire.Reader, many int) api.Rep {
	at := r.At()
	sym := r.Number(1)
	if sym >= many {
		r.Fail(api.ErrRange, at)
	}
	return api.Rep{Sym: sym, Times: r.Number(2)}
}

// stream reads the bytes of count symbols, each of which must be one of so many.
func stream(r *wire.Reader, count, many int) []byte {
	at := r.At()
	b := r.Take((count*Bits(many) + 7) / 8)
	if !r.Bad() && !below(b, count, many) {
		r.Fail(api.ErrRange, at)
	}
	return b
}
